/-
  DiG, DiH, DiI, DiJ, DiK, DiL, DiM in one text.
-/
import Derived.Test.YtglcaejddckleaaGreatDoorQA
import Derived.RangeFuncNested
import Derived.RangeFuncBound
import Derived.RangeFuncCalls
import Derived.RangeFuncLeaves
import Derived.RangeFuncFrom
import Derived.Shelf.Abstract
import Derived.Shelf.RegionOpen
import Derived.OwnWalkIn
import Derived.TacticsInMore
import Derived.LoopNIn
import Derived.LoopIn
import Derived.LaidEqlPtr
namespace Go.Proofs.YtglcaejddckleaaGreatDoor
open Go.RowKit Go.Shelf
set_option linter.unusedVariables false

section
variable {P : Program} {ops : Array Oper} {C : World → Prop} {md : Region.Mode}

theorem wpIn_of_quiet {l n : Nat} {o : Oper} {a : Act} {K : Act → Prop} {K' : Act → World → Prop} {Q' : Exit → Act → World → Prop} {w : World} (hd : ∀ c, o.op ≠ .defer c) (hw : C w) (h : ∀ a w', C w' → K a → K' a w') (hh : o.quiet P a C K) : o.wpIn (Fence.wide.inRound l) n P a w K' Q' := by
  obtain ⟨v, h1, h2⟩ := hh
  have h3 := h1 w hw
  unfold Oper.quietAt at h3
  refine ⟨fun _ _ => trivial, ?_⟩
  show o.uponIn (Fence.wide.inRound l) n P a K' Q' ((o.semAt (some l) a.eval).run P w)
  rw [Oper.semAt_some l _ _ hd]
  generalize (execOp a.eval o).run P w = r at *
  cases r with
  | ok x w' =>
    cases x <;> simp only [Oper.quietUpon] at h3 <;> simp only [Oper.uponIn]
    case value u =>
      obtain ⟨e1, e2⟩ := h3
      rw [e1, e2]
      exact h _ _ hw h2
    case skip =>
      obtain ⟨e1, e2⟩ := h3
      rw [e1, ← e2]
      exact h _ _ hw h2
    case enter f args =>
      obtain ⟨e1, hc⟩ := h3
      rw [e1]
      refine ⟨fun hh => (by cases hh), CallsIn.inRound l (callsIn_wide.2 (hc.mono fun e w'' ⟨he, hw''⟩ => ?_))⟩
      subst he
      exact h _ _ hw'' h2
  | halt x w' => simp only [Oper.quietUpon] at h3

def noDefer (ops : Array Oper) : Bool := ops.all fun o => match o.op with | .defer _ => false | _ => true
theorem noDefer_spec (h : noDefer ops = true) {i : Nat} {o : Oper} (ho : ops[i]? = some o) : ∀ c, o.op ≠ .defer c := by
  intro c e
  unfold noDefer at h
  rw [Array.all_eq_true] at h
  obtain ⟨hi, he⟩ := Array.getElem?_eq_some_iff.1 ho
  have := h i hi
  rw [he, e] at this
  simp at this

theorem wpOpIn_of_qOp {l n i : Nat} {a : Act} {K : Act → Prop} {K' : Act → World → Prop} {Q' : Exit → Act → World → Prop} {w : World} (hd : noDefer ops = true) (hC : C w) (h : ∀ a w', C w' → K a → K' a w') (hh : qOp P ops C i K a) : wpOpIn (Fence.wide.inRound l) n P ops Q' i K' a w := by
  unfold qOp at hh
  unfold wpOpIn
  split
  · rename_i ho; simp only [ho] at hh; exact h _ _ hC hh
  · rename_i o ho
    simp only [ho] at hh
    split
    · rename_i hw; simp only [hw, if_true] at hh; exact wpIn_of_quiet (noDefer_spec hd ho) hC h hh
    · rename_i hw; simp only [hw] at hh; exact ⟨fun _ _ => trivial, h _ _ hC hh⟩

theorem wpAnyIn_of_quiet {l n : Nat} {Q : Act → Prop} {Q' : Exit → Act → World → Prop} (hd : noDefer ops = true) (hQ : ∀ a w, C w → Q a → Q' .normal a w) : ∀ (fuel : Nat) (listed : Array Bool) (a : Act) (w : World), C w →
    wpAnyQ P md ops C Q fuel listed a → wpAnyIn (Fence.wide.inRound l) n P md ops Q' fuel listed a w
  | 0, _, _, _, hw, h => ⟨h.1, hQ _ _ hw h.2⟩
  | fuel + 1, _, _, _, hw, h => ⟨fun h0 => hQ _ _ hw (h.1 h0), fun i hi => wpOpIn_of_qOp hd hw (fun a' w' hw' => wpAnyIn_of_quiet hd hQ fuel _ a' w' hw') (h.2 i hi)⟩

theorem wpIn_region_quiet {l n id : Nat} {Q : Exit → Act → World → Prop} {a : Act} {w : World} (hm : P.follows .mixedOrders = true) (hB : Region.lexB .any ops = true) (hd : noDefer ops = true) (hC : C { w with drawn := w.drawn + 1 })
    (h : wpQuiet P ops C (fun a' => ∀ w', C w' → Q .normal a' w') ops.toList a) : (Code.region id ops true).wpIn (Fence.wide.inRound l) n P Q a w := by
  simp only [Region.lexB, Bool.and_eq_true] at hB
  refine wpIn_region_any hm (wpAnyIn_of_quiet hd (Q := fun a' => ∀ w', C w' → Q .normal a' w') (fun _ w' hw' h => h w' hw') _ _ _ _ hC ?_)
  have := wpAnyQ_lex (C := C) (md := .any) hB.1 ops.toList 0 (Array.replicate ops.size false) a (by simp) (by simpa using hB.2) h
  simpa using this
end
end Go.Proofs.YtglcaejddckleaaGreatDoor

namespace Go.Proofs.YtglcaejddckleaaGreatDoor
open Go.RowKit Go.Shelf
set_option linter.unusedVariables false
attribute [local go_sem] run_store_float run_equalIn_float Oper.semAt_some

/-- The program's hash of a value. -/
structure HsI (T : World → Prop) (v : Vl) (h : Nat) : Prop where
  lt : h < 18446744073709551616
  call : ∀ w : World, T w → Calls Tryz.prog 94 #[V v.kind v.num v.flt v.str v.ref] w fun e w' => e = .returned (.int .u64 (h : Int)) ∧ Below w.heap.size w w'
/-- What the hashes stand on lasts. -/
def Lasts (T : World → Prop) : Prop := ∀ w w', T w → Below w.heap.size w w' → T w'

def seqL (x a0 f : Nat) : List Nat := (List.range f).map (fun j => (a0 + j) % x)
theorem seqL_succ (x a0 f : Nat) : seqL x a0 (f + 1) = seqL x a0 f ++ [(a0 + f) % x] := by
  unfold seqL
  rw [List.range_succ]
  simp
theorem seqL_length (x a0 f : Nat) : (seqL x a0 f).length = f := by simp [seqL]
theorem seqL_prefix {x a0 f g : Nat} (h : f ≤ g) : seqL x a0 f <+: seqL x a0 g := by
  obtain ⟨k, rfl⟩ : ∃ k, g = f + k := ⟨g - f, by omega⟩
  induction k with
  | zero => exact List.prefix_refl _
  | succ k ih =>
    rw [show f + (k + 1) = (f + k) + 1 by omega, seqL_succ]
    exact (ih (by omega)).trans (List.prefix_append _ _)

set_option maxHeartbeats 1000000 in
theorem from_any (p : Option Addr) (v : Vl) (w : World) :
    Calls Tryz.prog 132 #[.pointer p, V v.kind v.num v.flt v.str v.ref] w fun e w' => e = .returned (.func (.func 146) #[] #[.pointer (some ⟨w.heap.size, 0, none⟩), .pointer (some ⟨w.heap.size + 1, 0, none⟩)]) ∧ w' = (w.alloc (.cells #[.pointer p] 149)).alloc (.cells #[.int .i64 v.kind, .int .i64 v.num, .float .f64 v.flt, .string v.str, .int .i64 v.ref] 30) := by
  go_enter Tryz.func132, Tryz.ntmps132
  go_wp2
  go_ret
  exact ⟨rfl, rfl⟩

theorem grown_of_below {w w' : World} (h : Below w.heap.size w w') : w.grownBy w' none := ⟨h.os, h.tape, h.output, h.size, fun k hk _ => h.block k hk⟩

/-- All slots have come; some have. -/
def SqAll (d : Dc) (h : Nat) (xs : List {a : Nat // a < d.x}) : Prop := xs.map (·.1) = seqL d.x (h % d.x) d.x
def SqPre (d : Dc) (h : Nat) (xs : List {a : Nat // a < d.x}) : Prop := xs.map (·.1) <+: seqL d.x (h % d.x) d.x
def SqTo (d : Dc) (h j : Nat) (xs : List {a : Nat // a < d.x}) : Prop := xs.map (·.1) = seqL d.x (h % d.x) j
theorem SqTo.len {d : Dc} {h j : Nat} {xs : List {a : Nat // a < d.x}} (e : SqTo d h j xs) : xs.length = j := by
  have := congrArg List.length e
  rwa [List.length_map, seqL_length] at this
theorem SqTo.snoc {d : Dc} {h j : Nat} {xs : List {a : Nat // a < d.x}} (e : SqTo d h j xs) (hx : (h % d.x + j) % d.x < d.x) : SqTo d h (j + 1) (xs ++ [⟨(h % d.x + j) % d.x, hx⟩]) := by
  unfold SqTo at *
  rw [List.map_append, e, seqL_succ]
  rfl
theorem SqTo.pre {d : Dc} {h j : Nat} {xs : List {a : Nat // a < d.x}} (e : SqTo d h j xs) (hj : j ≤ d.x) : SqPre d h xs := by
  unfold SqTo at e
  unfold SqPre
  rw [e]
  exact seqL_prefix hj

set_option maxRecDepth 100000 in
set_option maxHeartbeats 2000000 in
theorem from_stops (n : Nat) (hn : 1 ≤ n) (T : World → Prop) (hTl : Lasts T) (bk R2 mb kb : Nat) (d : Dc) (v : Vl) (h n0 : Nat) (hh : HsI T v h) (w : World) (hT : T w) (hx : d.x ≤ 4194304)
    (m0 : w.cell? ⟨mb, 0, none⟩ = some (.pointer (some ⟨bk, 2, none⟩))) (c2 : w.cell? ⟨bk, 2, none⟩ = some hashF) (c3 : w.cell? ⟨bk, 3, none⟩ = some (.slice (some ⟨R2, 0, none⟩) d.x d.x))
    (k0 : w.cell? ⟨kb, 0, none⟩ = some (.int .i64 v.kind)) (k1 : w.cell? ⟨kb, 1, none⟩ = some (.int .i64 v.num)) (k2 : w.cell? ⟨kb, 2, none⟩ = some (.float .f64 v.flt)) (k3 : w.cell? ⟨kb, 3, none⟩ = some (.string v.str)) (k4 : w.cell? ⟨kb, 4, none⟩ = some (.int .i64 v.ref)) :
    SeqStopsK Fence.wide n Tryz.prog 146 #[.pointer (some ⟨mb, 0, none⟩), .pointer (some ⟨kb, 0, none⟩)] (fun a : {a : Nat // a < d.x} => #[.int .i64 (a.1 : Int)]) (Below n0)
      (SqAll d h) (SqPre d h) d.x w := fun l J Jx W hW hJ hJx hY h0 => by
  have lm := World.block_lt_of_cell? _ _ m0
  have lb := World.block_lt_of_cell? _ _ c2
  have lk := World.block_lt_of_cell? _ _ k0
  have m0 := (hW.cell (p := ⟨mb, 0, none⟩) lm).trans m0
  have c2 := (hW.cell (p := ⟨bk, 2, none⟩) lb).trans c2
  have c3 := (hW.cell (p := ⟨bk, 3, none⟩) lb).trans c3
  have k0 := (hW.cell (p := ⟨kb, 0, none⟩) lk).trans k0
  have k1 := (hW.cell (p := ⟨kb, 1, none⟩) lk).trans k1
  have k2 := (hW.cell (p := ⟨kb, 2, none⟩) lk).trans k2
  have k3 := (hW.cell (p := ⟨kb, 3, none⟩) lk).trans k3
  have k4 := (hW.cell (p := ⟨kb, 4, none⟩) lk).trans k4
  have lm' : mb < W.heap.size := Nat.lt_of_lt_of_le lm hW.size
  have lb' : bk < W.heap.size := Nat.lt_of_lt_of_le lb hW.size
  have lk' : kb < W.heap.size := Nat.lt_of_lt_of_le lk hW.size
  have HT := hide (hTl _ _ hT hW)
  have HTl := hide hTl
  have HH := hide hh
  have HJ := hide hJ
  have HY := hide hY
  have H0 := hide h0
  clear hJx hJ hY hT hW hTl hh h0
  refine callsIn_of_wp Tryz.func146 rfl trivial ?_ rfl
  simp only [Tryz.ntmps146, List.size_toArray, List.length_cons, List.length_nil, Nat.reduceAdd, Nat.reduceSub, Array.replicate_succ, Array.replicate_zero, List.push_toArray, List.append_toArray, List.nil_append, List.cons_append]
  by_cases hx0 : d.x = 0
  · have hx0' : ((d.x : Int) == 0) = true := by simp [hx0]
    have HX0 := hide hx0
    clear hx0
    gi_wp2
    refine bodyPost_ret (results_none rfl _ _ _) rfl ?_
    exact ⟨⟨_, rfl⟩, .inl ⟨[], by unfold SqAll; rw [unhide HX0]; rfl, unhide H0⟩⟩
  have hx0' : ((d.x : Int) == 0) = false := by simp [hx0]
  have hxp : 0 < d.x := by omega
  gi_wp2
  refine wpIn_wide.2 ?_
  refine wp_region_quiet (C := fun w' => Below W.heap.size W w') (by kernel_rfl) (by kernel_rfl) ((Below.refl _ _).drew) ?_
  show wpQuiet _ _ _ _ [_, _, _, _, _, _, _, _, _] _
  refine wpQuiet_step (fun K hK => ?_)
  go_simp
  apply Exists.intro
  refine And.intro (fun w' hw' => ?_) (hK _ ?_)
  · obtain ⟨hc', hf'⟩ := bcell hw'
    go_simp
    first | rfl | exact ⟨rfl, rfl⟩ | exact ⟨rfl⟩
  clear hK K
  refine wpQuiet_step (fun K hK => ?_)
  go_simp
  refine ⟨_, fun w' hw' => rfl, hK _ ?_⟩
  clear hK K
  refine wpQuiet_step (fun K hK => ?_)
  go_simp
  refine ⟨_, fun w' hw' => rfl, hK _ ?_⟩
  clear hK K
  refine wpQuiet_step (fun K hK => ?_)
  go_simp
  apply Exists.intro
  refine And.intro (fun w' hw' => ?_) (hK _ ?_)
  · obtain ⟨hc', hf'⟩ := bcell hw'
    go_simp
    first | rfl | exact ⟨rfl, rfl⟩ | exact ⟨rfl⟩
  clear hK K
  refine wpQuiet_step (fun K hK => ?_)
  go_simp
  apply Exists.intro
  refine And.intro (fun w' hw' => ?_) (hK _ ?_)
  · obtain ⟨hc', hf'⟩ := bcell hw'
    go_simp
    first | rfl | exact ⟨rfl, rfl⟩ | exact ⟨rfl⟩
  clear hK K
  refine wpQuiet_step (fun K hK => ?_)
  go_simp
  apply Exists.intro
  refine And.intro (fun w' hw' => ?_) (hK _ ?_)
  · refine (((unhide HH).call _ (unhide HTl _ _ (unhide HT) hw'))).mono ?_
    rintro e w'' ⟨rfl, hb⟩
    exact ⟨rfl, hw'.trans (hb.mono hw'.size)⟩
  clear hK K
  obtain ⟨a0, ha0⟩ : ∃ a0, a0 = h % d.x := ⟨_, rfl⟩
  have hr0 : (h : Int).tmod (d.x : Int) = (a0 : Int) := by rw [ha0, Int.tmod_eq_emod_of_nonneg (by omega)]; exact (Int.natCast_emod _ _).symm
  have ha1 : a0 < d.x := by rw [ha0]; exact Nat.mod_lt _ hxp
  have hhl := (unhide HH).lt
  have HA0 := hide ha0
  clear ha0
  refine wpQuiet_step (fun K hK => ?_)
  go_simp
  refine ⟨_, fun w' hw' => rfl, hK _ ?_⟩
  clear hK K
  refine wpQuiet_step (fun K hK => ?_)
  go_simp
  refine ⟨_, fun w' hw' => rfl, hK _ ?_⟩
  clear hK K
  refine wpQuiet_step (fun K hK => ?_)
  go_simp
  refine ⟨_, fun w' hw' => rfl, hK _ ?_⟩
  clear hK K
  refine wpQuiet_nil ?_
  intro w2 hw2
  have HJ2 := hide ((unhide HJ) [] W w2 none (unhide H0) (grown_of_below hw2) (fun r e => by cases e))
  clear hw2 hr0 m0 c2 c3 k0 k1 k2 k3 k4
  gi_wp2
  gi_loopw [24] (fun i wr => ∃ (j : Nat) (pre : List {a : Nat // a < d.x}), j ≤ d.x ∧ i = .int .u64 (j : Int) ∧ SqTo d h j pre ∧ J pre wr) (fun i _ => d.x - (intOf i).toNat)
  case atStart => exact ⟨0, [], by omega, rfl, rfl, unhide HJ2⟩
  case round =>
    clear HJ2
    obtain ⟨j, pre, hj, rfl, hsq, hJp⟩ := hrel
    by_cases hjx : j < d.x
    · obtain ⟨a1, ha⟩ : ∃ a1, a1 = (a0 + j) % d.x := ⟨_, rfl⟩
      have hlt1 : a1 < d.x := by rw [ha]; exact Nat.mod_lt _ hxp
      have hr1 : ((a0 : Int) + (j : Int)).tmod (d.x : Int) = (a1 : Int) := by rw [ha, Int.tmod_eq_emod_of_nonneg (by omega), Int.natCast_emod, Int.natCast_add]
      obtain ⟨fn, tmps, assign, body, hy, hR⟩ := unhide HY pre ⟨a1, hlt1⟩ wr hJp (by rw [hsq.len]; exact hjx)
      have HSN : Hid (SqTo d h (j + 1) (pre ++ [⟨a1, hlt1⟩])) := hide (by
        have := hsq.snoc (by rw [← unhide HA0, ← ha]; exact hlt1)
        simp only [← unhide HA0, ← ha] at this
        exact this)
      have HR := hide hR
      clear hR hsq hJp ha
      dsimp only at hy
      gi_wp2
      refine (unhide HR).mono ?_
      rintro e W3 (⟨rfl, hJ3, hk3⟩ | ⟨rfl, hJx3⟩)
      · clear HR hy
        gi_wp2
        go_roundw
        case rel => exact ⟨j + 1, _, by omega, by go_num, unhide HSN, hJ3⟩
        case measure => simp [intOf]; omega
      · clear HR hy
        gi_wp2
        refine bodyPost_ret (results_none rfl _ _ _) rfl ?_
        exact ⟨⟨_, rfl⟩, .inr ⟨_, (unhide HSN).pre (by omega), hJx3⟩⟩
    · have hjx' : j = d.x := by omega
      subst hjx'
      have HS := hide hsq
      clear hsq
      gi_wp2
      go_end0
      exact ⟨⟨_, rfl⟩, .inl ⟨pre, unhide HS, hJp⟩⟩
end Go.Proofs.YtglcaejddckleaaGreatDoor

namespace Go.Proofs.YtglcaejddckleaaGreatDoor
open Go.RowKit Go.Shelf
set_option linter.unusedVariables false
attribute [local go_sem] run_store_float run_equalIn_float Oper.semAt_some

/-- The search ends at slot a. -/
def Stop (d : Dc) (v : Vl) (a : Nat) : Prop := d.X a = 0 ∨ (0 < d.X a ∧ likeB (d.at (d.X a)).key v = true)
open Classical in
/-- The search over a list of slots. -/
noncomputable def findL (d : Dc) (v : Vl) : List Nat → Option Nat
  | [] => none
  | a :: l => if d.X a = 0 then none else if 0 < d.X a ∧ likeB (d.at (d.X a)).key v = true then some a else findL d v l
theorem findL_none {d : Dc} {v : Vl} {l : List Nat} (h : ∀ a ∈ l, ¬ Stop d v a) : findL d v l = none := by
  induction l with
  | nil => rfl
  | cons a l ih =>
    have h1 := h a (by simp)
    unfold findL
    rw [if_neg (fun e => h1 (.inl e)), if_neg (fun e => h1 (.inr e))]
    exact ih (fun b hb => h b (by simp [hb]))
theorem findL_stop {d : Dc} {v : Vl} {l l' : List Nat} {a : Nat} (h : ∀ b ∈ l, ¬ Stop d v b) (hp : l ++ [a] <+: l') (hs : Stop d v a) : findL d v l' = if d.X a = 0 then none else some a := by
  obtain ⟨r, rfl⟩ := hp
  induction l with
  | nil =>
    show (if _ then _ else _) = _
    by_cases e : d.X a = 0
    · rw [if_pos e, if_pos e]
    · rw [if_neg e, if_neg e, if_pos (hs.resolve_left e)]
  | cons b l ih =>
    have h1 := h b (by simp)
    show (if _ then _ else _) = _
    rw [if_neg (fun e => h1 (.inl e)), if_neg (fun e => h1 (.inr e))]
    exact ih (fun c hc => h c (by simp [hc]))
theorem probe_findL {d : Dc} {v : Vl} (hx : 0 < d.x) : ∀ (f a : Nat), a < d.x → probe d v a f = findL d v (seqL d.x a f) := by
  intro f
  induction f with
  | zero => intro a _; rfl
  | succ f ih =>
    intro a ha
    have e : seqL d.x a (f + 1) = a :: seqL d.x ((a + 1) % d.x) f := by
      unfold seqL
      rw [List.range_succ_eq_map]
      simp only [List.map_cons, List.map_map, Nat.add_zero, Nat.mod_eq_of_lt ha]
      congr 1
      apply List.map_congr_left
      intro j _
      simp only [Function.comp]
      rw [Nat.mod_add_mod]
      congr 1
      omega
    rw [e]
    show (if _ then _ else _) = (if _ then _ else _)
    rw [ih _ (Nat.mod_lt _ hx)]
theorem slotOf_findL {d : Dc} {v : Vl} {h : Nat} : slotOf d v h = findL d v (seqL d.x (h % d.x) d.x) := by
  unfold slotOf
  by_cases h0 : d.x = 0
  · rw [if_pos h0, h0]; rfl
  · rw [if_neg h0]
    exact probe_findL (by omega) _ _ (Nat.mod_lt _ (by omega))

theorem keeps_of_below {W W' : World} (h : Below W.heap.size W W') : KeepsOthers W W' := ⟨h.size, fun k o hk _ => (h.block k (Array.getElem?_eq_some_iff.1 hk).1).trans hk⟩

set_option maxRecDepth 100000 in
set_option maxHeartbeats 4000000 in
theorem find_any (T : World → Prop) (hTl : Lasts T) (bk R0 R1 R2 : Nat) (E S : Nat → Nat) (d : Dc) (v : Vl) (h : Nat) (hh : HsI T v h) (w : World) (hT : T w) (hB : Book w bk R0 R1 R2 E S d) (hS : Small d) (h4 : D4 d) :
    Calls Tryz.prog 106 #[.pointer (some ⟨bk, 2, none⟩), V v.kind v.num v.flt v.str v.ref] w fun e w' => e = .returned (.int .i64 (slotI (slotOf d v h))) ∧ Below w.heap.size w w' := by
  have hx := hS.x
  refine (callsIn_wide (n := 10)).1 ?_
  refine callsIn_of_wp_marks Tryz.func106 rfl trivial ?_ rfl
  simp only [Tryz.ntmps106, List.size_toArray, List.length_cons, List.length_nil, Nat.reduceAdd, Nat.reduceSub, Array.replicate_succ, Array.replicate_zero, List.push_toArray, List.append_toArray, List.nil_append, List.cons_append]
  gi_wp2_with (refine ⟨trivial, ?_⟩; gi_at_call 132; refine (callsIn_wide.2 (from_any (some ⟨bk, 2, none⟩) v _)).mono ?_; rintro e w' ⟨rfl, rfl⟩)
  obtain ⟨u, hu⟩ : ∃ u, u = ((((w.alloc (.cells #[.pointer (some ⟨bk, 2, none⟩)] 149)).alloc (.cells #[.int .i64 v.kind, .int .i64 v.num, .float .f64 v.flt, .string v.str, .int .i64 v.ref] 30)).alloc (.cells #[.int .i64 0] 3)).alloc (.cells #[.pointer (some ⟨bk, 2, none⟩)] 149)).alloc (.cells #[.int .i64 v.kind, .int .i64 v.num, .float .f64 v.flt, .string v.str, .int .i64 v.ref] 30) := ⟨_, rfl⟩
  rw [← hu]
  have zu : u.heap.size = w.heap.size + 5 := by rw [hu]; simp
  have bu : Below w.heap.size w u := by rw [hu]; exact (((((Below.refl _ _).alloc (Nat.le_refl _) _).alloc (by simp) _).alloc (by simp; omega) _).alloc (by simp; omega) _).alloc (by simp; omega) _
  have n0 : u.cell? ⟨w.heap.size, 0, none⟩ = some (.pointer (some ⟨bk, 2, none⟩)) := by rw [hu]; simp [go_sem]
  have i0 : u.cell? ⟨w.heap.size + 1, 0, none⟩ = some (.int .i64 v.kind) := by rw [hu]; simp [go_sem]
  have i1 : u.cell? ⟨w.heap.size + 1, 1, none⟩ = some (.int .i64 v.num) := by rw [hu]; simp [go_sem]
  have i2 : u.cell? ⟨w.heap.size + 1, 2, none⟩ = some (.float .f64 v.flt) := by rw [hu]; simp [go_sem]
  have i3 : u.cell? ⟨w.heap.size + 1, 3, none⟩ = some (.string v.str) := by rw [hu]; simp [go_sem]
  have i4 : u.cell? ⟨w.heap.size + 1, 4, none⟩ = some (.int .i64 v.ref) := by rw [hu]; simp [go_sem]
  have r0 : u.cell? ⟨w.heap.size + 1 + 1, 0, none⟩ = some (.int .i64 0) := by rw [hu]; simp [go_sem]
  have r1 : u.frozen? ⟨w.heap.size + 1 + 1, 0, none⟩ = false := by rw [hu]; simp [go_sem]
  have m0 : u.cell? ⟨w.heap.size + 1 + 1 + 1, 0, none⟩ = some (.pointer (some ⟨bk, 2, none⟩)) := by rw [hu]; simp [go_sem]
  have j0 : u.cell? ⟨w.heap.size + 1 + 1 + 1 + 1, 0, none⟩ = some (.int .i64 v.kind) := by rw [hu]; simp [go_sem]
  have j1 : u.cell? ⟨w.heap.size + 1 + 1 + 1 + 1, 1, none⟩ = some (.int .i64 v.num) := by rw [hu]; simp [go_sem]
  have j2 : u.cell? ⟨w.heap.size + 1 + 1 + 1 + 1, 2, none⟩ = some (.float .f64 v.flt) := by rw [hu]; simp [go_sem]
  have j3 : u.cell? ⟨w.heap.size + 1 + 1 + 1 + 1, 3, none⟩ = some (.string v.str) := by rw [hu]; simp [go_sem]
  have j4 : u.cell? ⟨w.heap.size + 1 + 1 + 1 + 1, 4, none⟩ = some (.int .i64 v.ref) := by rw [hu]; simp [go_sem]
  have hBu := hB.below bu
  have hTu := hTl _ _ hT bu
  clear hu
  refine wpIn_rangeFunc_ownF rfl (by decide) (gf := 146) (lb := #[.pointer (some ⟨w.heap.size + 1 + 1 + 1, 0, none⟩), .pointer (some ⟨w.heap.size + 1 + 1 + 1 + 1, 0, none⟩)]) rfl trivial (enters_of Tryz.func146 (by kernel_rfl) rfl)
    (from_stops 9 (by decide) T hTl bk R2 (w.heap.size + 1 + 1 + 1) (w.heap.size + 1 + 1 + 1 + 1) d v h w.heap.size hh u hTu hx m0 hBu.c2 hBu.c3 j0 j1 j2 j3 j4) belowK_t (belowK_b (by omega)) (Below.refl _ _) (fun _ => rfl)
    (fun pre W => ((∀ y ∈ pre, ¬ Stop d v y.1) ∧ W.cell? ⟨w.heap.size, 0, none⟩ = some (.pointer (some ⟨bk, 2, none⟩)) ∧ W.cell? ⟨w.heap.size + 1, 0, none⟩ = some (.int .i64 v.kind) ∧ W.cell? ⟨w.heap.size + 1, 1, none⟩ = some (.int .i64 v.num) ∧ W.cell? ⟨w.heap.size + 1, 2, none⟩ = some (.float .f64 v.flt) ∧ W.cell? ⟨w.heap.size + 1, 3, none⟩ = some (.string v.str) ∧ W.cell? ⟨w.heap.size + 1, 4, none⟩ = some (.int .i64 v.ref) ∧ W.cell? ⟨w.heap.size + 1 + 1, 0, none⟩ = some (.int .i64 0) ∧ W.frozen? ⟨w.heap.size + 1 + 1, 0, none⟩ = false) ∧ Below w.heap.size w W)
    (fun c pre W => (c = .ret ∧ (∃ pre' a, pre = pre' ++ [a] ∧ (∀ y ∈ pre', ¬ Stop d v y.1) ∧ Stop d v a.1 ∧ W.cell? ⟨w.heap.size + 1 + 1, 0, none⟩ = some (.int .i64 (slotI (if d.X a.1 = 0 then none else some a.1))))) ∧ Below w.heap.size w W)
    (OwnFrom.and (Own.from (fun s A B row hs hg hr => ⟨hs.1, cell_kept hs.2.1 hg hr, cell_kept hs.2.2.1 hg hr, cell_kept hs.2.2.2.1 hg hr, cell_kept hs.2.2.2.2.1 hg hr, cell_kept hs.2.2.2.2.2.1 hg hr, cell_kept hs.2.2.2.2.2.2.1 hg hr, cell_kept hs.2.2.2.2.2.2.2.1 hg hr, (frozen_kept hs.2.2.2.2.2.2.2.1 hg hr).trans hs.2.2.2.2.2.2.2.2⟩) _) (ownFrom_below (Nat.le_refl _) (by omega)))
    (fun c => OwnFrom.and (Own.from (fun s A B row hs hg hr => ⟨hs.1, by obtain ⟨pre', a, h1, h2, h3, h4⟩ := hs.2; exact ⟨pre', a, h1, h2, h3, cell_kept h4 hg hr⟩⟩) _) (ownFrom_below (Nat.le_refl _) (by omega)))
    ⟨⟨by simp, n0, i0, i1, i2, i3, i4, r0, r1⟩, bu⟩
    ?a1 ?assign ?body ?done ?stop
  case assign =>
    intro l x W K hK
    gi_wp2
    exact hK
  case body =>
    rintro l pre ⟨a, ha⟩ W ⟨⟨hp, g0, e0, e1, e2, e3, e4, s0, s1⟩, hBW⟩ _
    have hBk := hB.below hBW
    have c3 := hBk.c3
    have p0 := hBk.r2 a ha
    have hsl := hBk.sl a ha
    have lW : bk < W.heap.size := hBk.lt
    have lR : R2 < W.heap.size := hBk.l2
    have z0 := World.block_lt_of_cell? _ _ g0
    have z1 := World.block_lt_of_cell? _ _ e0
    have z2 := World.block_lt_of_cell? _ _ s0
    dsimp only at z0 z1 z2
    have HP := hide hp
    have HBW := hide hBW
    clear hBk hp hBW n0 i0 i1 i2 i3 i4 r0 r1 m0 j0 j1 j2 j3 j4 hBu hTu bu zu hB hT hh hTl
    rcases h4.2.1 a ha with hs | hs | hs
    · have hst : Stop d v a := .inl hs
      have HS := hide hst
      rw [show sltP S a (d.X a) = none from if_pos hs] at p0
      have HX : Hid (slotI (if d.X a = 0 then none else some a) = -1) := hide (by rw [if_pos hs]; rfl)
      clear hsl hs hst
      gi_wp2
      exact ⟨KeepsOthers.setCell _ _ _, ⟨rfl, pre, ⟨a, ha⟩, rfl, unhide HP, unhide HS, by rw [unhide HX]; exact World.cell?_setCell_same' _ _ _ (by rw [s0]; rfl)⟩, (unhide HBW).setCell (p := ⟨w.heap.size + 1 + 1, 0, none⟩) (by show w.heap.size ≤ w.heap.size + 1 + 1; omega) _⟩
    · have hns : ¬ Stop d v a := fun h => by rcases h with h | h <;> omega
      have HS := hide hns
      rw [show sltP S a (d.X a) = some ⟨S a, 0, none⟩ from if_neg (by omega)] at p0
      obtain ⟨hsz, hgn⟩ := hsl.2 (by omega)
      clear hsl hs hns
      gi_wp2
      refine wpIn_region_quiet (C := fun w' => Below W.heap.size W w') (by kernel_rfl) (by kernel_rfl) (by kernel_rfl) ((Below.refl _ _).drew) ?_
      show wpQuiet _ _ _ _ [_, _, _, _, _, _, _, _, _, _, _, _, _] _
      refine wpQuiet_step (fun K hK => ?_)
      go_simp
      refine ⟨_, fun w' hw' => rfl, hK _ ?_⟩
      clear hK K
      refine wpQuiet_step (fun K hK => ?_)
      go_simp
      refine ⟨_, fun w' hw' => rfl, hK _ ?_⟩
      clear hK K
      refine wpQuiet_step (fun K hK => ?_)
      go_simp
      refine ⟨_, fun w' hw' => rfl, hK _ ?_⟩
      clear hK K
      refine wpQuiet_step (fun K hK => ?_)
      go_simp
      apply Exists.intro
      refine And.intro (fun w' hw' => ?_) (hK _ ?_)
      · obtain ⟨hc', hf'⟩ := bcell hw'
        go_simp
        first | rfl | exact ⟨rfl, rfl⟩ | exact ⟨rfl⟩
      clear hK K
      refine wpQuiet_step (fun K hK => ?_)
      go_simp
      refine ⟨_, fun w' hw' => rfl, hK _ ?_⟩
      clear hK K
      refine wpQuiet_step (fun K hK => ?_)
      go_simp
      refine ⟨_, fun w' hw' => rfl, hK _ ?_⟩
      clear hK K
      go_big_quiet_step (fail)
      go_big_quiet_step (fail)
      go_big_quiet_step (fail)
      go_big_quiet_step (fail)
      go_big_quiet_step (fail)
      go_big_quiet_step (fail)
      refine wpQuiet_step (fun K hK => ?_)
      go_simp
      refine ⟨_, fun w' hw' => rfl, hK _ ?_⟩
      clear hK K
      refine wpQuiet_nil ?_
      intro w2 hw2
      have HK := hide (keeps_of_below hw2)
      have HB2 := hide hw2
      have g0 := (hw2.cell (p := ⟨w.heap.size, 0, none⟩) z0).trans g0
      have e0 := (hw2.cell (p := ⟨w.heap.size + 1, 0, none⟩) z1).trans e0
      have e1 := (hw2.cell (p := ⟨w.heap.size + 1, 1, none⟩) z1).trans e1
      have e2 := (hw2.cell (p := ⟨w.heap.size + 1, 2, none⟩) z1).trans e2
      have e3 := (hw2.cell (p := ⟨w.heap.size + 1, 3, none⟩) z1).trans e3
      have e4 := (hw2.cell (p := ⟨w.heap.size + 1, 4, none⟩) z1).trans e4
      have s0 := (hw2.cell (p := ⟨w.heap.size + 1 + 1, 0, none⟩) z2).trans s0
      have s1 := (hw2.frozen (p := ⟨w.heap.size + 1 + 1, 0, none⟩) z2).trans s1
      clear hw2
      gi_wp2
      exact ⟨unhide HK, (unhide HB2).mono (unhide HBW).size, ⟨fun y hy => (List.mem_append.1 hy).elim (unhide HP y) (fun e => by simp at e; subst e; exact unhide HS), g0, e0, e1, e2, e3, e4, s0, s1⟩, (unhide HBW).trans ((unhide HB2).mono (unhide HBW).size)⟩
    · rw [show sltP S a (d.X a) = some ⟨S a, 0, none⟩ from if_neg (by omega)] at p0
      obtain ⟨hsz, f0, f1, f2, f3, f4, f5, f6⟩ := hsl.1 hs.1
      have hsp := hs.1
      generalize hkv : (d.at (d.X a)).key = kv at *
      cases hlk : likeB kv v
      · have hns : ¬ Stop d v a := fun h => by
          rcases h with h | h
          · omega
          · rw [hkv, hlk] at h; exact absurd h.2 (by decide)
        have HS := hide hns
        have hl' : (kv.kind == v.kind && (kv.num == v.num && ((FloatKind.f64.format.order kv.flt v.flt == some .eq) && (kv.str.toList == v.str.toList && kv.ref == v.ref)))) = false := hlk
        clear hsl hs hns hsp hkv
        gi_wp2
        refine wpIn_region_quiet (C := fun w' => Below W.heap.size W w') (by kernel_rfl) (by kernel_rfl) (by kernel_rfl) ((Below.refl _ _).drew) ?_
        show wpQuiet _ _ _ _ [_, _, _, _, _, _, _, _, _, _, _, _, _] _
        refine wpQuiet_step (fun K hK => ?_)
        go_simp
        refine ⟨_, fun w' hw' => rfl, hK _ ?_⟩
        clear hK K
        refine wpQuiet_step (fun K hK => ?_)
        go_simp
        refine ⟨_, fun w' hw' => rfl, hK _ ?_⟩
        clear hK K
        refine wpQuiet_step (fun K hK => ?_)
        go_simp
        refine ⟨_, fun w' hw' => rfl, hK _ ?_⟩
        clear hK K
        refine wpQuiet_step (fun K hK => ?_)
        go_simp
        apply Exists.intro
        refine And.intro (fun w' hw' => ?_) (hK _ ?_)
        · obtain ⟨hc', hf'⟩ := bcell hw'
          go_simp
          first | rfl | exact ⟨rfl, rfl⟩ | exact ⟨rfl⟩
        clear hK K
        refine wpQuiet_step (fun K hK => ?_)
        go_simp
        refine ⟨_, fun w' hw' => rfl, hK _ ?_⟩
        clear hK K
        refine wpQuiet_step (fun K hK => ?_)
        go_simp
        refine ⟨_, fun w' hw' => rfl, hK _ ?_⟩
        clear hK K
        refine wpQuiet_step (fun K hK => ?_)
        go_simp
        refine ⟨_, fun w' hw' => rfl, hK _ ?_⟩
        clear hK K
        refine wpQuiet_step (fun K hK => ?_)
        go_simp
        refine ⟨_, fun w' hw' => rfl, hK _ ?_⟩
        clear hK K
        refine wpQuiet_step (fun K hK => ?_)
        go_simp
        refine ⟨_, fun w' hw' => rfl, hK _ ?_⟩
        clear hK K
        refine wpQuiet_step (fun K hK => ?_)
        go_simp
        apply Exists.intro
        refine And.intro (fun w' hw' => ?_) (hK _ ?_)
        · obtain ⟨hc', hf'⟩ := bcell hw'
          go_simp
          first | rfl | exact ⟨rfl, rfl⟩ | exact ⟨rfl⟩
        clear hK K
        refine wpQuiet_step (fun K hK => ?_)
        go_simp
        apply Exists.intro
        refine And.intro (fun w' hw' => ?_) (hK _ ?_)
        · obtain ⟨hc', hf'⟩ := bcell hw'
          go_simp
          first | rfl | exact ⟨rfl, rfl⟩ | exact ⟨rfl⟩
        clear hK K
        refine wpQuiet_step (fun K hK => ?_)
        go_simp
        refine ⟨.bool false, fun w' hw' => ?_, hK _ ?_⟩
        · by_cases q1 : kv.kind = v.kind <;> by_cases q2 : kv.num = v.num <;> by_cases q3 : FloatKind.f64.format.order kv.flt v.flt = some Ordering.eq <;> by_cases q4 : kv.str.toList = v.str.toList <;> by_cases q5 : kv.ref = v.ref <;> simp_all
        clear hK K
        refine wpQuiet_step (fun K hK => ?_)
        go_simp
        refine ⟨_, fun w' hw' => rfl, hK _ ?_⟩
        clear hK K
        refine wpQuiet_nil ?_
        intro w2 hw2
        have HK := hide (keeps_of_below hw2)
        have HB2 := hide hw2
        have g0 := (hw2.cell (p := ⟨w.heap.size, 0, none⟩) z0).trans g0
        have e0 := (hw2.cell (p := ⟨w.heap.size + 1, 0, none⟩) z1).trans e0
        have e1 := (hw2.cell (p := ⟨w.heap.size + 1, 1, none⟩) z1).trans e1
        have e2 := (hw2.cell (p := ⟨w.heap.size + 1, 2, none⟩) z1).trans e2
        have e3 := (hw2.cell (p := ⟨w.heap.size + 1, 3, none⟩) z1).trans e3
        have e4 := (hw2.cell (p := ⟨w.heap.size + 1, 4, none⟩) z1).trans e4
        have s0 := (hw2.cell (p := ⟨w.heap.size + 1 + 1, 0, none⟩) z2).trans s0
        have s1 := (hw2.frozen (p := ⟨w.heap.size + 1 + 1, 0, none⟩) z2).trans s1
        clear hw2
        gi_wp2
        exact ⟨unhide HK, (unhide HB2).mono (unhide HBW).size, ⟨fun y hy => (List.mem_append.1 hy).elim (unhide HP y) (fun e => by simp at e; subst e; exact unhide HS), g0, e0, e1, e2, e3, e4, s0, s1⟩, (unhide HBW).trans ((unhide HB2).mono (unhide HBW).size)⟩
      · have hst : Stop d v a := .inr ⟨hsp, by rw [hkv]; exact hlk⟩
        have HS := hide hst
        have HX : Hid (slotI (if d.X a = 0 then none else some a) = (a : Int)) := hide (by rw [if_neg (by omega)]; rfl)
        have hl' : (kv.kind == v.kind && (kv.num == v.num && ((FloatKind.f64.format.order kv.flt v.flt == some .eq) && (kv.str.toList == v.str.toList && kv.ref == v.ref)))) = true := hlk
        clear hsl hs hst hsp hkv
        gi_wp2
        refine wpIn_region_quiet (C := fun w' => Below W.heap.size W w') (by kernel_rfl) (by kernel_rfl) (by kernel_rfl) ((Below.refl _ _).drew) ?_
        show wpQuiet _ _ _ _ [_, _, _, _, _, _, _, _, _, _, _, _, _] _
        refine wpQuiet_step (fun K hK => ?_)
        go_simp
        refine ⟨_, fun w' hw' => rfl, hK _ ?_⟩
        clear hK K
        refine wpQuiet_step (fun K hK => ?_)
        go_simp
        refine ⟨_, fun w' hw' => rfl, hK _ ?_⟩
        clear hK K
        refine wpQuiet_step (fun K hK => ?_)
        go_simp
        refine ⟨_, fun w' hw' => rfl, hK _ ?_⟩
        clear hK K
        refine wpQuiet_step (fun K hK => ?_)
        go_simp
        apply Exists.intro
        refine And.intro (fun w' hw' => ?_) (hK _ ?_)
        · obtain ⟨hc', hf'⟩ := bcell hw'
          go_simp
          first | rfl | exact ⟨rfl, rfl⟩ | exact ⟨rfl⟩
        clear hK K
        refine wpQuiet_step (fun K hK => ?_)
        go_simp
        refine ⟨_, fun w' hw' => rfl, hK _ ?_⟩
        clear hK K
        refine wpQuiet_step (fun K hK => ?_)
        go_simp
        refine ⟨_, fun w' hw' => rfl, hK _ ?_⟩
        clear hK K
        refine wpQuiet_step (fun K hK => ?_)
        go_simp
        refine ⟨_, fun w' hw' => rfl, hK _ ?_⟩
        clear hK K
        refine wpQuiet_step (fun K hK => ?_)
        go_simp
        refine ⟨_, fun w' hw' => rfl, hK _ ?_⟩
        clear hK K
        refine wpQuiet_step (fun K hK => ?_)
        go_simp
        refine ⟨_, fun w' hw' => rfl, hK _ ?_⟩
        clear hK K
        refine wpQuiet_step (fun K hK => ?_)
        go_simp
        apply Exists.intro
        refine And.intro (fun w' hw' => ?_) (hK _ ?_)
        · obtain ⟨hc', hf'⟩ := bcell hw'
          go_simp
          first | rfl | exact ⟨rfl, rfl⟩ | exact ⟨rfl⟩
        clear hK K
        refine wpQuiet_step (fun K hK => ?_)
        go_simp
        apply Exists.intro
        refine And.intro (fun w' hw' => ?_) (hK _ ?_)
        · obtain ⟨hc', hf'⟩ := bcell hw'
          go_simp
          first | rfl | exact ⟨rfl, rfl⟩ | exact ⟨rfl⟩
        clear hK K
        refine wpQuiet_step (fun K hK => ?_)
        go_simp
        refine ⟨.bool true, fun w' hw' => ?_, hK _ ?_⟩
        · by_cases q1 : kv.kind = v.kind <;> by_cases q2 : kv.num = v.num <;> by_cases q3 : FloatKind.f64.format.order kv.flt v.flt = some Ordering.eq <;> by_cases q4 : kv.str.toList = v.str.toList <;> by_cases q5 : kv.ref = v.ref <;> simp_all
        clear hK K
        refine wpQuiet_step (fun K hK => ?_)
        go_simp
        refine ⟨_, fun w' hw' => rfl, hK _ ?_⟩
        clear hK K
        refine wpQuiet_nil ?_
        intro w2 hw2
        have HK := hide (keeps_of_below hw2)
        have HB2 := hide hw2
        have g0 := (hw2.cell (p := ⟨w.heap.size, 0, none⟩) z0).trans g0
        have e0 := (hw2.cell (p := ⟨w.heap.size + 1, 0, none⟩) z1).trans e0
        have e1 := (hw2.cell (p := ⟨w.heap.size + 1, 1, none⟩) z1).trans e1
        have e2 := (hw2.cell (p := ⟨w.heap.size + 1, 2, none⟩) z1).trans e2
        have e3 := (hw2.cell (p := ⟨w.heap.size + 1, 3, none⟩) z1).trans e3
        have e4 := (hw2.cell (p := ⟨w.heap.size + 1, 4, none⟩) z1).trans e4
        have s0 := (hw2.cell (p := ⟨w.heap.size + 1 + 1, 0, none⟩) z2).trans s0
        have s1 := (hw2.frozen (p := ⟨w.heap.size + 1 + 1, 0, none⟩) z2).trans s1
        clear hw2
        gi_wp2
        exact ⟨(unhide HK).trans (KeepsOthers.setCell _ _ _), ⟨rfl, pre, ⟨a, ha⟩, rfl, unhide HP, unhide HS, by rw [unhide HX]; exact World.cell?_setCell_same' _ _ _ (by rw [s0]; rfl)⟩, ((unhide HBW).trans ((unhide HB2).mono (unhide HBW).size)).setCell (p := ⟨w.heap.size + 1 + 1, 0, none⟩) (by show w.heap.size ≤ w.heap.size + 1 + 1; omega) _⟩
  case done =>
    rintro D ys W hD hsq ⟨⟨hp, _, _, _, _, _, _, hcr, hfr⟩, hBW⟩ hK
    have HR : Hid (slotOf d v h = none) := hide (by
      rw [slotOf_findL, ← show ys.map (·.1) = seqL d.x (h % d.x) d.x from hsq]
      exact findL_none (fun a ha => by obtain ⟨y, hy, rfl⟩ := List.mem_map.1 ha; exact hp y hy))
    clear hsq hp hh hB hBu
    gi_wp2
    have hK' := (KeepsOthers.setCell W ⟨w.heap.size + 1 + 1, 0, none⟩ (.int .i64 (-1))).same D _ hK rfl
    refine ⟨by simp, .inl ⟨_, _, rfl, run_takeDeferred hK', ?_⟩⟩
    have hc5 := cell_kept (World.cell?_setCell_same' W ⟨w.heap.size + 1 + 1, 0, none⟩ (.int .i64 (-1)) (by rw [hcr]; rfl)) (grownBy_putObj' _ D (.deferred none)) (fun r e => by cases e; exact ⟨_, hK', rfl⟩)
    refine ⟨.int .i64 (-1), ?_, by rw [unhide HR]; rfl, (hBW.setCell (p := ⟨w.heap.size + 1 + 1, 0, none⟩) (by show w.heap.size ≤ w.heap.size + 1 + 1; omega) _).trans (belowK_b (w := w) (Nat.le_refl _) _ D _ _ (by omega) hK' rfl rfl)⟩
    simp [results, Tryz.f106, go_sem, hc5]
  case stop =>
    rintro D c pre W hD hpre ⟨⟨rfl, pre', a, rfl, h1, h2, hcr⟩, hBW⟩ hK
    have HR : Hid (slotOf d v h = if d.X a.1 = 0 then none else some a.1) := hide (by
      rw [slotOf_findL]
      have hp : (pre' ++ [a]).map (·.1) <+: seqL d.x (h % d.x) d.x := hpre
      rw [List.map_append] at hp
      exact findL_stop (fun b hb => by obtain ⟨y, hy, rfl⟩ := List.mem_map.1 hb; exact h1 y hy) hp h2)
    clear hpre h1 h2 hh hB hBu
    gi_wp2
    refine ⟨by simp, .inl ⟨_, _, rfl, run_takeDeferred hK, ?_⟩⟩
    have hc5 := cell_kept hcr (grownBy_putObj' _ D (.deferred none)) (fun r e => by cases e; exact ⟨_, hK, rfl⟩)
    refine ⟨.int .i64 (slotI (if d.X a.1 = 0 then none else some a.1)), ?_, by rw [unhide HR], hBW.trans (belowK_b (w := w) (Nat.le_refl _) W D _ _ (by omega) hK rfl rfl)⟩
    simp [results, Tryz.f106, go_sem, hc5]
end Go.Proofs.YtglcaejddckleaaGreatDoor

namespace Go.Proofs.YtglcaejddckleaaGreatDoor
open Go.RowKit Go.Shelf
set_option linter.unusedVariables false
attribute [local go_sem] run_store_float run_equalIn_float Oper.semAt_some

/-- The entry at a place: none below 0. -/
def placeP (E : Nat → Nat) (p : Int) : Option Addr := if 0 ≤ p then some ⟨E p.toNat, 0, none⟩ else none

theorem place_range {d : Dc} (h3 : D3 d) (h4 : D4 d) (v : Vl) (h : Nat) : -1 ≤ placeI d v h ∧ placeI d v h < d.n := by
  unfold placeI
  by_cases hs : smallK d.m v
  · rw [if_pos hs]
    have := hs.2.1
    have := hs.2.2
    rcases h3.1 (v.num - 1).toNat (by omega) with hh | hh <;> omega
  · rw [if_neg hs]
    cases e : slotOf d v h with
    | none => exact ⟨by show (-1 : Int) ≤ -1; omega, by show (-1 : Int) < _; omega⟩
    | some s =>
      obtain ⟨h1, h2⟩ := slotOf_lt e
      show -1 ≤ d.X s - 1 ∧ d.X s - 1 < d.n
      rcases h4.2.1 s h1 with hh | hh | hh <;> omega

set_option maxRecDepth 100000 in
set_option maxHeartbeats 2000000 in
theorem bfind_any (T : World → Prop) (hTl : Lasts T) (bk R0 R1 R2 : Nat) (E S : Nat → Nat) (d : Dc) (v : Vl) (h : Nat) (hh : HsI T v h) (w : World) (hT : T w) (hB : Book w bk R0 R1 R2 E S d) (hS : Small d) (h3 : D3 d) (h4 : D4 d) :
    Calls Tryz.prog 67 #[.pointer (some ⟨bk, 0, none⟩), V v.kind v.num v.flt v.str v.ref] w fun e w' => e = .returned (.pointer (placeP E (placeI d v h))) ∧ Below w.heap.size w w' := by
  have hm := hS.m
  have hx := hS.x
  have hn := hS.n
  obtain ⟨W, hW⟩ : ∃ W, W = w.alloc (.cells #[.int .i64 v.kind, .int .i64 v.num, .float .f64 v.flt, .string v.str, .int .i64 v.ref] 30) := ⟨_, rfl⟩
  have hb0 : Below w.heap.size w W := by rw [hW]; exact (Below.refl _ _).alloc (Nat.le_refl _) _
  have hBk := hB.below hb0
  obtain ⟨k1, c1⟩ := hBk.c1
  have lb := hBk.lt
  have l1 := hBk.l1
  have hzW : w.heap.size < W.heap.size := by rw [hW]; simp
  have q0 : W.cell? ⟨w.heap.size, 0, none⟩ = some (.int .i64 v.kind) := by rw [hW]; simp [go_sem]
  have q1 : W.cell? ⟨w.heap.size, 1, none⟩ = some (.int .i64 v.num) := by rw [hW]; simp [go_sem]
  have q2 : W.cell? ⟨w.heap.size, 2, none⟩ = some (.float .f64 v.flt) := by rw [hW]; simp [go_sem]
  have q3 : W.cell? ⟨w.heap.size, 3, none⟩ = some (.string v.str) := by rw [hW]; simp [go_sem]
  have q4 : W.cell? ⟨w.heap.size, 4, none⟩ = some (.int .i64 v.ref) := by rw [hW]; simp [go_sem]
  have HB0 := hide hb0
  have HBk := hide hBk
  have HT := hide (hTl _ _ hT hb0)
  have HTl := hide hTl
  have HH := hide hh
  have HS := hide hS
  have H3 := hide h3
  have H4 := hide h4
  clear hb0 hBk hT hh hS h3 h4 hB hTl
  go_enter Tryz.func67, Tryz.ntmps67
  go_wp2_with fail
  rw [← hW]
  clear hW
  by_cases hs : smallK d.m v
  · have HSM := hide (tells_yes hs)
    obtain ⟨k1, k2, k3⟩ := hs
    obtain ⟨q, hq⟩ : ∃ q : Nat, v.num = (q : Int) + 1 := ⟨(v.num - 1).toNat, by omega⟩
    have hqm : q < d.m := by omega
    have HR : Hid (placeI d v h = d.I q - 1) := hide (by unfold placeI; rw [if_pos ⟨k1, k2, k3⟩, hq]; congr 2; omega)
    have p0 := (unhide HBk).r1 q hqm
    have hI : entP E (d.I q) = placeP E (d.I q - 1) := by
      unfold entP placeP
      by_cases e : 0 < d.I q
      · rw [if_pos e, if_pos (by omega)]
      · rw [if_neg e, if_neg (by omega)]
    rw [hI] at p0
    have hwq : IntKind.i64.wrap (q : Int) = q := by rw [IntKind.wrap_i64]; omega
    have HQ := hide hq
    clear k1 k2 k3 hI hq
    refine wp_region_quiet (C := fun w' => Below W.heap.size W w') (by kernel_rfl) (by kernel_rfl) ((Below.refl _ _).drew) ?_
    show wpQuiet _ _ _ _ [_, _, _, _, _, _, _] _
    refine wpQuiet_step (fun K hK => ?_)
    go_simp
    apply Exists.intro
    refine And.intro (fun w' hw' => ?_) (hK _ ?_)
    · obtain ⟨hc', hf'⟩ := bcell hw'
      go_simp
      first | rfl | exact ⟨rfl, rfl⟩ | exact ⟨rfl⟩
    clear hK K
    refine wpQuiet_step (fun K hK => ?_)
    go_simp
    refine ⟨_, fun w' hw' => rfl, hK _ ?_⟩
    clear hK K
    refine wpQuiet_step (fun K hK => ?_)
    go_simp
    refine ⟨_, fun w' hw' => rfl, hK _ ?_⟩
    clear hK K
    refine wpQuiet_step (fun K hK => ?_)
    go_simp
    refine ⟨_, fun w' hw' => rfl, hK _ ?_⟩
    clear hK K
    refine wpQuiet_step (fun K hK => ?_)
    go_simp
    apply Exists.intro
    refine And.intro (fun w' hw' => ?_) (hK _ ?_)
    · obtain ⟨hc', hf'⟩ := bcell hw'
      go_simp
      first | rfl | exact ⟨rfl, rfl⟩ | exact ⟨rfl⟩
    clear hK K
    refine wpQuiet_step (fun K hK => ?_)
    go_simp
    refine ⟨_, fun w' hw' => rfl, hK _ ?_⟩
    clear hK K
    refine wpQuiet_step (fun K hK => ?_)
    go_simp
    apply Exists.intro
    refine And.intro (fun w' hw' => ?_) (hK _ ?_)
    · refine (((unhide HSM) ▸ hasPlace_any v d.m _ hm)).mono ?_
      rintro e w'' ⟨rfl, hb⟩
      exact ⟨rfl, hw'.trans (hb.mono hw'.size)⟩
    clear hK K
    refine wpQuiet_nil ?_
    intro w2 hw2
    have c1' := (hw2.cell (p := ⟨bk, 1, none⟩) lb).trans c1
    have p0' := (hw2.cell (p := ⟨R1, q, none⟩) l1).trans p0
    have q1' := (hw2.cell (p := ⟨w.heap.size, 1, none⟩) hzW).trans q1
    rw [unhide HQ] at q1'
    have lb' := Nat.lt_of_lt_of_le lb hw2.size
    have l1' := Nat.lt_of_lt_of_le l1 hw2.size
    have hz2 := Nat.lt_of_lt_of_le hzW hw2.size
    have HB2 := hide ((unhide HB0).trans (hw2.mono (unhide HB0).size))
    clear hw2 c1 p0 q0 q1 q2 q3 q4
    go_wp2_with fail
    go_quiet (fail)
    go_wp2
    go_ret
    exact ⟨by rw [unhide HR]; rfl, below_drewN' (unhide HB2) _⟩
  · have HSM := hide (tells_no hs)
    have HR : Hid (placeI d v h = slotP d (slotOf d v h)) := hide (by unfold placeI; rw [if_neg hs])
    clear hs
    refine wp_region_quiet (C := fun w' => Below W.heap.size W w') (by kernel_rfl) (by kernel_rfl) ((Below.refl _ _).drew) ?_
    show wpQuiet _ _ _ _ [_, _, _, _, _, _, _] _
    refine wpQuiet_step (fun K hK => ?_)
    go_simp
    apply Exists.intro
    refine And.intro (fun w' hw' => ?_) (hK _ ?_)
    · obtain ⟨hc', hf'⟩ := bcell hw'
      go_simp
      first | rfl | exact ⟨rfl, rfl⟩ | exact ⟨rfl⟩
    clear hK K
    refine wpQuiet_step (fun K hK => ?_)
    go_simp
    refine ⟨_, fun w' hw' => rfl, hK _ ?_⟩
    clear hK K
    refine wpQuiet_step (fun K hK => ?_)
    go_simp
    refine ⟨_, fun w' hw' => rfl, hK _ ?_⟩
    clear hK K
    refine wpQuiet_step (fun K hK => ?_)
    go_simp
    refine ⟨_, fun w' hw' => rfl, hK _ ?_⟩
    clear hK K
    refine wpQuiet_step (fun K hK => ?_)
    go_simp
    apply Exists.intro
    refine And.intro (fun w' hw' => ?_) (hK _ ?_)
    · obtain ⟨hc', hf'⟩ := bcell hw'
      go_simp
      first | rfl | exact ⟨rfl, rfl⟩ | exact ⟨rfl⟩
    clear hK K
    refine wpQuiet_step (fun K hK => ?_)
    go_simp
    refine ⟨_, fun w' hw' => rfl, hK _ ?_⟩
    clear hK K
    refine wpQuiet_step (fun K hK => ?_)
    go_simp
    apply Exists.intro
    refine And.intro (fun w' hw' => ?_) (hK _ ?_)
    · refine (((unhide HSM) ▸ hasPlace_any v d.m _ hm)).mono ?_
      rintro e w'' ⟨rfl, hb⟩
      exact ⟨rfl, hw'.trans (hb.mono hw'.size)⟩
    clear hK K
    refine wpQuiet_nil ?_
    intro w2 hw2
    have q0' := (hw2.cell (p := ⟨w.heap.size, 0, none⟩) hzW).trans q0
    have q1' := (hw2.cell (p := ⟨w.heap.size, 1, none⟩) hzW).trans q1
    have q2' := (hw2.cell (p := ⟨w.heap.size, 2, none⟩) hzW).trans q2
    have q3' := (hw2.cell (p := ⟨w.heap.size, 3, none⟩) hzW).trans q3
    have q4' := (hw2.cell (p := ⟨w.heap.size, 4, none⟩) hzW).trans q4
    have hz2 := Nat.lt_of_lt_of_le hzW hw2.size
    have lb' := Nat.lt_of_lt_of_le lb hw2.size
    have HB2 := hide ((unhide HB0).trans (hw2.mono (unhide HB0).size))
    have HBk2 := hide ((unhide HBk).below hw2)
    have HT2 := hide (unhide HTl _ _ (unhide HT) hw2)
    clear hw2 q0 q1 q2 q3 q4 c1
    go_wp2_with fail
    refine wp_region_quiet (C := fun w' => Below w2.heap.size w2 w') (by kernel_rfl) (by kernel_rfl) ((Below.refl _ _).drew) ?_
    show wpQuiet _ _ _ _ [_, _, _, _, _, _] _
    refine wpQuiet_step (fun K hK => ?_)
    go_simp
    refine ⟨_, fun w' hw' => rfl, hK _ ?_⟩
    clear hK K
    refine wpQuiet_step (fun K hK => ?_)
    go_simp
    refine ⟨_, fun w' hw' => rfl, hK _ ?_⟩
    clear hK K
    refine wpQuiet_step (fun K hK => ?_)
    go_simp
    refine ⟨_, fun w' hw' => rfl, hK _ ?_⟩
    clear hK K
    refine wpQuiet_step (fun K hK => ?_)
    go_simp
    apply Exists.intro
    refine And.intro (fun w' hw' => ?_) (hK _ ?_)
    · obtain ⟨hc', hf'⟩ := bcell hw'
      go_simp
      first | rfl | exact ⟨rfl, rfl⟩ | exact ⟨rfl⟩
    clear hK K
    refine wpQuiet_step (fun K hK => ?_)
    go_simp
    apply Exists.intro
    refine And.intro (fun w' hw' => ?_) (hK _ ?_)
    · refine ((find_any T (unhide HTl) bk R0 R1 R2 E S d v h (unhide HH) _ (unhide HTl _ _ (unhide HT2) hw') ((unhide HBk2).below hw') (unhide HS) (unhide H4))).mono ?_
      rintro e w'' ⟨rfl, hb⟩
      exact ⟨rfl, hw'.trans (hb.mono hw'.size)⟩
    clear hK K
    refine wpQuiet_step (fun K hK => ?_)
    go_simp
    refine ⟨_, fun w' hw' => rfl, hK _ ?_⟩
    clear hK K
    refine wpQuiet_nil ?_
    intro w3 hw3
    have HB3 := hide ((unhide HB2).trans (hw3.mono (unhide HB2).size))
    have hBk3 := (unhide HBk2).below hw3
    have c3 := hBk3.c3
    have lb3 := hBk3.lt
    have HBk3 := hide hBk3
    clear hw3 hBk3 q0' q1' q2' q3' q4' lb'
    cases hsl : slotOf d v h with
    | none =>
      have HR' : Hid (placeP E (placeI d v h) = none) := hide (by rw [unhide HR, hsl]; rfl)
      simp only [slotI]
      go_wp2
      go_ret
      exact ⟨by rw [unhide HR']; rfl, unhide HB3⟩
    | some s =>
      obtain ⟨hsx, hsp⟩ := slotOf_lt hsl
      have hsc := ((unhide HBk3).sl s hsx).1 hsp
      have p0 := (unhide HBk3).r2 s hsx
      rw [show sltP S s (d.X s) = some ⟨S s, 0, none⟩ from if_neg (by omega)] at p0
      have p1 := hsc.pt
      have ls := hsc.lt
      have HR' : Hid (placeP E (placeI d v h) = some ⟨E (d.X s - 1).toNat, 0, none⟩) := hide (by
        rw [unhide HR, hsl]
        show (if 0 ≤ d.X s - 1 then _ else _) = _
        rw [if_pos (by omega)]
        rfl)
      simp only [slotI]
      obtain ⟨q, hq⟩ : ∃ q, q = (d.X s - 1).toNat := ⟨_, rfl⟩
      rw [← hq] at p1 HR'
      clear hsl hsp hsc hq
      go_wp2
      go_ret
      exact ⟨by rw [unhide HR']; rfl, unhide HB3⟩

end Go.Proofs.YtglcaejddckleaaGreatDoor

namespace Go.Proofs.YtglcaejddckleaaGreatDoor
open Go.RowKit Go.Shelf
set_option linter.unusedVariables false
attribute [local go_sem] run_store_float run_equalIn_float Oper.semAt_some

/-- The living entries. -/
abbrev Liv (d : Dc) : Type := {i : Nat // i < d.n ∧ (d.L i).turn ≠ 0}
def livL (d : Dc) (k : Nat) : List Nat := (List.range k).filter (fun i => (d.L i).turn != 0)
def LvAll (d : Dc) (xs : List (Liv d)) : Prop := xs.map (·.1) = livL d d.n
def LvPre (d : Dc) (xs : List (Liv d)) : Prop := xs.map (·.1) <+: livL d d.n
def LvTo (d : Dc) (k : Nat) (xs : List (Liv d)) : Prop := xs.map (·.1) = livL d k
theorem livL_dead {d : Dc} {k : Nat} (h : (d.L k).turn = 0) : livL d (k + 1) = livL d k := by
  unfold livL
  rw [List.range_succ, List.filter_append]
  simp [h]
theorem livL_live {d : Dc} {k : Nat} (h : (d.L k).turn ≠ 0) : livL d (k + 1) = livL d k ++ [k] := by
  unfold livL
  rw [List.range_succ, List.filter_append]
  simp [h]
theorem livL_le (d : Dc) (k : Nat) : (livL d k).length ≤ k := by
  unfold livL
  have := List.length_filter_le (fun i => (d.L i).turn != 0) (List.range k)
  simpa using this
theorem livL_prefix {d : Dc} {k n : Nat} (h : k ≤ n) : livL d k <+: livL d n := by
  obtain ⟨j, rfl⟩ : ∃ j, n = k + j := ⟨n - k, by omega⟩
  induction j with
  | zero => exact List.prefix_refl _
  | succ j ih =>
    refine (ih (by omega)).trans ?_
    by_cases e : (d.L (k + j)).turn = 0
    · rw [show k + (j + 1) = k + j + 1 by omega, livL_dead e]; exact List.prefix_refl _
    · rw [show k + (j + 1) = k + j + 1 by omega, livL_live e]; exact List.prefix_append _ _
theorem LvTo.pre {d : Dc} {k : Nat} {xs : List (Liv d)} (h : LvTo d k xs) (hk : k ≤ d.n) : LvPre d xs := by
  unfold LvTo at h
  unfold LvPre
  rw [h]
  exact livL_prefix hk
theorem mem_livL {d : Dc} {k i : Nat} : i ∈ livL d k ↔ i < k ∧ (d.L i).turn ≠ 0 := by
  unfold livL
  simp [List.mem_filter]

set_option maxHeartbeats 1000000 in
theorem living_any (bk : Nat) (w : World) :
    Calls Tryz.prog 68 #[.pointer (some ⟨bk, 0, none⟩)] w fun e w' => e = .returned (.func (.func 107) #[] #[.pointer (some ⟨w.heap.size, 0, none⟩)]) ∧ w' = w.alloc (.cells #[.pointer (some ⟨bk, 0, none⟩)] 77) := by
  go_enter Tryz.func68, Tryz.ntmps68
  go_wp2
  go_ret
  exact ⟨rfl, rfl⟩

set_option maxRecDepth 100000 in
set_option maxHeartbeats 2000000 in
theorem living_stops (n : Nat) (hn : 1 ≤ n) (bk R0 R1 R2 mb n0 : Nat) (E S : Nat → Nat) (d : Dc) (w : World) (hB : Book w bk R0 R1 R2 E S d) (hS : Small d) (hR : R0 < n0) (hE : ∀ i, i < d.n → E i < n0)
    (m0 : w.cell? ⟨mb, 0, none⟩ = some (.pointer (some ⟨bk, 0, none⟩))) :
    SeqStopsK Fence.wide n Tryz.prog 107 #[.pointer (some ⟨mb, 0, none⟩)] (fun a : Liv d => #[.pointer (some ⟨E a.1, 0, none⟩)]) (Below n0)
      (LvAll d) (LvPre d) d.n w := fun l J Jx W hW hJ hJx hY h0 => by
  have lm := World.block_lt_of_cell? _ _ m0
  have m0 := (hW.cell (p := ⟨mb, 0, none⟩) lm).trans m0
  have hBk := hB.below hW
  obtain ⟨a0, k0, c0, ha0⟩ := hBk.c0
  have HA0 := hide ha0
  clear ha0
  have lb := hBk.lt
  have hnn := hS.n
  have HY := hide hY
  have H0 := hide h0
  have HBk := hide hBk
  have HE := hide hE
  clear hJx hJ hY hW h0 hBk hB hS hE
  refine callsIn_of_wp Tryz.func107 rfl trivial ?_ rfl
  simp only [Tryz.ntmps107, List.size_toArray, List.length_cons, List.length_nil, Nat.reduceAdd, Nat.reduceSub, Array.replicate_succ, Array.replicate_zero, List.push_toArray, List.append_toArray, List.nil_append, List.cons_append]
  gi_wp2
  gi_loopw [10] (fun i wr => ∃ (k : Nat) (pre : List (Liv d)), k ≤ d.n ∧ i = .int .i64 (k : Int) ∧ LvTo d k pre ∧ J pre wr ∧ Below n0 W wr) (fun i _ => d.n - (intOf i).toNat)
  case atStart => exact ⟨0, [], by omega, rfl, rfl, unhide H0, Below.refl _ _⟩
  case round =>
    obtain ⟨k, pre, hk, rfl, hlv, hJp, hbw⟩ := hrel
    by_cases hkn : k < d.n
    · obtain rfl := unhide HA0 (by omega)
      have p0 := (hbw.cell (p := ⟨R0, k, none⟩) hR).trans ((unhide HBk).r0 k hkn)
      have t0 := (hbw.cell (p := ⟨E k, 10, none⟩) (unhide HE k hkn)).trans ((unhide HBk).ent k hkn).tn
      have HLV := hide hlv
      have HBW := hide hbw
      clear hlv hbw
      by_cases ht : (d.L k).turn = 0
      · have HN : Hid (LvTo d (k + 1) pre) := hide (by unfold LvTo; rw [livL_dead ht]; exact unhide HLV)
        rw [ht] at t0
        clear ht
        gi_wp2
        refine ⟨fun _ h => (by cases h), ?_⟩
        gi_wp2
        go_roundw
        case rel => exact ⟨k + 1, pre, by omega, by go_num, unhide HN, hJp, unhide HBW⟩
        case measure => simp [intOf]; omega
      · have ht' : ((d.L k).turn != 0) = true := by simp [ht]
        obtain ⟨fn, tmps, assign, body, hy, hRR⟩ := unhide HY pre ⟨k, hkn, ht⟩ wr hJp (by
          have h1 : (pre.map (·.1)).length = (livL d k).length := congrArg List.length (unhide HLV)
          rw [List.length_map] at h1
          have := livL_le d k
          omega)
        have HN : Hid (LvTo d (k + 1) (pre ++ [⟨k, hkn, ht⟩])) := hide (by
          unfold LvTo
          rw [livL_live ht, List.map_append, show pre.map (·.1) = livL d k from unhide HLV]
          rfl)
        have HR := hide hRR
        clear hRR hJp
        dsimp only at hy
        gi_wp2
        refine (unhide HR).mono ?_
        rintro e W3 (⟨rfl, hJ3, hk3⟩ | ⟨rfl, hJx3⟩)
        · clear HR hy
          gi_wp2
          go_roundw
          case rel => exact ⟨k + 1, _, by omega, by go_num, unhide HN, hJ3, (unhide HBW).trans hk3⟩
          case measure => simp [intOf]; omega
        · clear HR hy
          gi_wp2
          refine bodyPost_ret (results_none rfl _ _ _) rfl ?_
          exact ⟨⟨_, rfl⟩, .inr ⟨_, (unhide HN).pre (by omega), hJx3⟩⟩
    · have hkn' : k = d.n := by omega
      subst hkn'
      have HS := hide hlv
      clear hlv
      gi_wp2
      go_end0
      exact ⟨⟨_, rfl⟩, .inl ⟨pre, unhide HS, hJp⟩⟩
end Go.Proofs.YtglcaejddckleaaGreatDoor

namespace Go.Proofs.YtglcaejddckleaaGreatDoor
open Go.RowKit Go.Shelf
set_option linter.unusedVariables false
attribute [local go_sem] run_store_float run_equalIn_float Oper.semAt_some

theorem placeP_ne {E : Nat → Nat} {n : Nat} (hinj : ∀ i j, i < n → j < n → E i = E j → i = j) {p : Int} (h1 : -1 ≤ p) (h2 : p < n) {i : Nat} (hi : i < n) : placeP E p = some ⟨E i, 0, none⟩ ↔ p = i := by
  unfold placeP
  by_cases h : 0 ≤ p
  · rw [if_pos h]
    constructor
    · intro e
      have := hinj p.toNat i (by omega) hi (by simpa using e)
      omega
    · intro e; subst e; rfl
  · rw [if_neg h]
    constructor
    · intro e; cases e
    · intro e; omega

theorem infoEntry : (Tryz.prog.info? 92).map (fun i => i.size) = some 12 := by kernel_rfl
/-- Two pointers to entries held against each other. -/
theorem neq_ent {w : World} {bk R0 R1 R2 : Nat} {E S : Nat → Nat} {d : Dc} (hB : Book w bk R0 R1 R2 E S d) {p : Int} (h1 : -1 ≤ p) (h2 : p < d.n) {i : Nat} (hi : i < d.n) :
    (binOp .neq 89 (.pointer (placeP E p)) (.pointer (some ⟨E i, 0, none⟩))).run Tryz.prog w = .ok (.bool (decide (p ≠ i))) w := by
  have hp : Tryz.prog.underlying 89 = some (.pointer 92) := Tryz.underlying89
  obtain ⟨j, hj, hs⟩ := Option.map_eq_some_iff.1 infoEntry
  unfold placeP
  by_cases h : 0 ≤ p
  · rw [if_pos h]
    by_cases e : p = i
    · subst e
      have hh : ∀ k : Nat, (Op.equalIn (k + 1) 89 (.pointer (some ⟨E i, 0, none⟩)) (.pointer (some ⟨E i, 0, none⟩))).run Tryz.prog w = .ok true w := fun k => by
        simp [Op.equalIn, run_underlying hp, sizeOf, typeInfo, hj, run_sameAddr_same]
      simp only [Int.toNat_natCast, binOp]
      simp [Op.equal, Op.maxDepth, hh 9999]
    · have o1 := (hB.ent p.toNat (by omega)).ob
      have o2 := (hB.ent i hi).ob
      have hne : (⟨E p.toNat, 0, none⟩ : Addr) ≠ ⟨E i, 0, none⟩ := fun he => by
        have := hB.inj p.toNat i (by omega) hi (by simpa using he)
        omega
      have hh : ∀ k : Nat, (Op.equalIn (k + 1) 89 (.pointer (some ⟨E p.toNat, 0, none⟩)) (.pointer (some ⟨E i, 0, none⟩))).run Tryz.prog w = .ok false w := fun k => by
        simp [Op.equalIn, run_underlying hp, sizeOf, typeInfo, hj, hs, run_sameAddr_other w hne o1 o2]
      simp only [binOp]
      simp [Op.equal, Op.maxDepth, hh 9999, e]
  · rw [if_neg h]
    have e : p ≠ i := by omega
    have hh : ∀ k : Nat, (Op.equalIn (k + 1) 89 (.pointer none) (.pointer (some ⟨E i, 0, none⟩))).run Tryz.prog w = .ok false w := fun k => by
      simp [Op.equalIn, run_underlying hp, sizeOf, typeInfo]
    simp only [binOp]
    simp [Op.equal, Op.maxDepth, hh 9999, e]

set_option maxRecDepth 100000 in
set_option maxHeartbeats 4000000 in
theorem allAreFound_any (T : World → Prop) (hTl : Lasts T) (la : Option Addr) (lc : Nat) (ia : Option Addr) (ic : Nat) (xa : Option Addr) (xc : Nat) (d : Dc) (H : Nat → Nat) (w : World) (hT : T w) (hD : DAt w la ia xa d) (hS : Small d) (h2 : D2 d) (h3 : D3 d) (h4 : D4 d) (hH : ∀ i, i < d.n → (d.L i).turn ≠ 0 → HsI T (d.L i).key (H i)) :
    Calls Tryz.prog 64 #[Dv la lc ia ic xa xc d] w fun e w' => e = .returned (.bool (tells (D5 d H))) ∧ Below w.heap.size w w' := by
  have hm := hS.m
  have hb0 : Below w.heap.size w ((w.alloc (.cells #[.slice la d.n lc, .slice ia d.m ic, .slice xa d.x xc, .int .i64 d.used, .int .i64 d.live, .int .i64 d.turns] 84)).alloc (.cells #[.bool false] 4)) := ((Below.refl _ _).alloc (Nat.le_refl _) _).alloc (by simp) _
  have HB0 := hide hb0
  clear hb0
  refine (callsIn_wide (n := 20)).1 ?_
  refine callsIn_of_wp_marks Tryz.func64 rfl trivial ?_ rfl
  simp only [Tryz.ntmps64, List.size_toArray, List.length_cons, List.length_nil, Nat.reduceAdd, Nat.reduceSub, Array.replicate_succ, Array.replicate_zero, List.push_toArray, List.append_toArray, List.nil_append, List.cons_append]
  have HTl := hide hTl
  have HT := hide hT
  have HD := hide hD
  have HS := hide hS
  have H2 := hide h2
  have H3 := hide h3
  have H4 := hide h4
  have HH := hide hH
  clear hTl hT hD hS h2 h3 h4 hH
  gi_wp2_with fail
  refine ⟨trivial, ?_⟩
  refine (callsIn_wide.2 (openBook_any la lc ia ic xa xc d _ ((unhide HD).below (unhide HB0)) (unhide HS) (unhide H3) (unhide H4))).mono ?_
  rintro e w1 ⟨⟨bk, R0, R1, R2, E, S, rfl, hBk⟩, hb1⟩
  obtain ⟨hc1, hf1⟩ := bcell hb1
  have hz1 : w.heap.size + 2 ≤ w1.heap.size := by have := hb1.size; simp at this; omega
  have y0 : w.heap.size < w1.heap.size := by omega
  have y1 : w.heap.size + 1 < w1.heap.size := by omega
  have a0 : w1.cell? ⟨w.heap.size, 0, none⟩ = some (.slice la d.n lc) := by rw [hc1 _ _ (by simp; omega)]; simp [go_sem]
  have a1 : w1.cell? ⟨w.heap.size, 1, none⟩ = some (.slice ia d.m ic) := by rw [hc1 _ _ (by simp; omega)]; simp [go_sem]
  have a2 : w1.cell? ⟨w.heap.size, 2, none⟩ = some (.slice xa d.x xc) := by rw [hc1 _ _ (by simp; omega)]; simp [go_sem]
  have a3 : w1.cell? ⟨w.heap.size, 3, none⟩ = some (.int .i64 d.used) := by rw [hc1 _ _ (by simp; omega)]; simp [go_sem]
  have a4 : w1.cell? ⟨w.heap.size, 4, none⟩ = some (.int .i64 d.live) := by rw [hc1 _ _ (by simp; omega)]; simp [go_sem]
  have a5 : w1.cell? ⟨w.heap.size, 5, none⟩ = some (.int .i64 d.turns) := by rw [hc1 _ _ (by simp; omega)]; simp [go_sem]
  have b0 : w1.cell? ⟨w.heap.size + 1, 0, none⟩ = some (.bool false) := by rw [hc1 _ _ (by simp)]; simp [go_sem]
  have b1 : w1.frozen? ⟨w.heap.size + 1, 0, none⟩ = false := by rw [hf1 _ _ (by simp)]; simp [go_sem]
  have HB1 := hide ((unhide HB0).trans (hb1.mono (unhide HB0).size))
  have HBk := hide hBk
  clear hb1 hc1 hf1 hBk
  gi_wp2_with fail
  refine ⟨trivial, ?_⟩
  refine (callsIn_wide.2 (timesNamed_any la lc ia ic xa xc d _ ((unhide HD).below ((unhide HB1).alloc (by omega) _)) (unhide HS) (unhide H3) (unhide H4))).mono ?_
  rintro e w2 ⟨⟨st, rfl, hct⟩, hb2⟩
  have hz2 : w1.heap.size < w2.heap.size := by have := hb2.size; simp at this; omega
  have HX2 := hide (((Below.refl w1.heap.size w1).alloc (Nat.le_refl _) _).trans (hb2.mono (by simp)))
  have m2 : w2.cell? ⟨w1.heap.size, 0, none⟩ = some (.pointer (some ⟨bk, 0, none⟩)) := by rw [(bcell hb2).1 _ _ (by simp)]; simp [go_sem]
  have HC2 := hide hct
  clear hct hb2 a0 a1 a2 a3 a4 a5
  gi_wp2_with fail
  refine ⟨trivial, ?_⟩
  refine (callsIn_wide.2 (nextInt_any bk R0 R1 R2 E S d _ ((unhide HBk).below ((unhide HX2).alloc (by omega) _)) (unhide HS))).mono ?_
  rintro e w3 ⟨rfl, hb3⟩
  have hz3 : w2.heap.size < w3.heap.size := by have := hb3.size; simp at this; omega
  have hz3' : w1.heap.size < w3.heap.size := by omega
  have HX3 := hide (((Below.refl w2.heap.size w2).alloc (Nat.le_refl _) _).trans (hb3.mono (by simp)))
  have m3 : w3.cell? ⟨w1.heap.size, 0, none⟩ = some (.pointer (some ⟨bk, 0, none⟩)) := ((unhide HX3).cell (p := ⟨w1.heap.size, 0, none⟩) hz2).trans m2
  have s3 : w3.cell? ⟨w2.heap.size, 0, none⟩ = some (.slice (some ⟨st, 0, none⟩) d.n d.n) := by rw [(bcell hb3).1 _ _ (by simp)]; simp [go_sem]
  clear hb3 m2
  gi_wp2_with fail
  refine ⟨trivial, ?_⟩
  refine (callsIn_wide.2 (living_any bk _)).mono ?_
  rintro e w4 ⟨rfl, rfl⟩
  gi_wp2_with fail
  obtain ⟨u, hu⟩ : ∃ u, u = (w3.alloc (.cells #[.int .i64 2, .int .i64 ((d.m : Int) + 1), .float .f64 0, .string ⟨#[]⟩, .int .i64 0] 30)).alloc (.cells #[.pointer (some ⟨bk, 0, none⟩)] 77) := ⟨_, rfl⟩
  rw [← hu]
  have zu : u.heap.size = w3.heap.size + 2 := by rw [hu]; simp
  have b3u : Below w3.heap.size w3 u := by rw [hu]; exact ((Below.refl _ _).alloc (Nat.le_refl _) _).alloc (by simp) _
  have n0 : u.cell? ⟨w3.heap.size, 0, none⟩ = some (.int .i64 2) := by rw [hu]; simp [go_sem]
  have n1 : u.cell? ⟨w3.heap.size, 1, none⟩ = some (.int .i64 ((d.m : Int) + 1)) := by rw [hu]; simp [go_sem]
  have n2 : u.cell? ⟨w3.heap.size, 2, none⟩ = some (.float .f64 0) := by rw [hu]; simp [go_sem]
  have n3 : u.cell? ⟨w3.heap.size, 3, none⟩ = some (.string ⟨#[]⟩) := by rw [hu]; simp [go_sem]
  have n4 : u.cell? ⟨w3.heap.size, 4, none⟩ = some (.int .i64 0) := by rw [hu]; simp [go_sem]
  have mb0 : u.cell? ⟨w3.heap.size + 1, 0, none⟩ = some (.pointer (some ⟨bk, 0, none⟩)) := by rw [hu]; simp [go_sem]
  clear hu
  have b2u : Below w2.heap.size w2 u := (unhide HX3).trans (b3u.mono (by omega))
  have b1u : Below w1.heap.size w1 u := (unhide HX2).trans (b2u.mono (by omega))
  have bwu : Below w.heap.size w u := (unhide HB1).trans (b1u.mono (by omega))
  have mu := (b3u.cell (p := ⟨w1.heap.size, 0, none⟩) hz3').trans m3
  have su := (b3u.cell (p := ⟨w2.heap.size, 0, none⟩) hz3).trans s3
  have ru := (b1u.cell (p := ⟨w.heap.size + 1, 0, none⟩) y1).trans b0
  have fu := (b1u.frozen (p := ⟨w.heap.size + 1, 0, none⟩) y1).trans b1
  have hBu := (unhide HBk).below b1u
  have hCu : Counts u st d.n (fun j => cnt d.I j d.m + cnt d.X j d.x) := (unhide HC2).below b2u
  have hz1u : w1.heap.size < u.heap.size := by omega
  have hz2u : w2.heap.size < u.heap.size := by omega
  have hz3u : w3.heap.size < u.heap.size := by omega
  have hNu : w.heap.size + 1 < u.heap.size := by omega
  clear b2u b1u b3u m3 s3 b0 b1 HBk HC2 HX2 HX3 HB1 HB0 HD hz1 y0 y1 hz2 hz3 hz3'
  generalize w1.heap.size = M1 at *
  generalize w2.heap.size = M2 at *
  refine wpIn_rangeFunc_ownF rfl (by decide) (gf := 107) (lb := #[.pointer (some ⟨w3.heap.size + 1, 0, none⟩)]) rfl trivial (enters_of Tryz.func107 (by kernel_rfl) rfl)
    (living_stops 19 (by decide) bk R0 R1 R2 (w3.heap.size + 1) u.heap.size E S d u hBu (unhide HS) hBu.l0 (fun i hi => (hBu.ent i hi).lt) mb0) belowK_t (belowK_b (Nat.le_refl _)) (Below.refl _ _) (fun _ => rfl)
    (fun pre W => (∀ y ∈ pre, ok5 d H y.1) ∧ Below u.heap.size u W)
    (fun c pre W => (c = .ret ∧ (∃ y ∈ pre, ¬ ok5 d H y.1) ∧ W.cell? ⟨w.heap.size + 1, 0, none⟩ = some (.bool false)) ∧ Below w.heap.size w W)
    (OwnFrom.and (ownFrom_pure _ (fun pre : List (Liv d) => ∀ y ∈ pre, ok5 d H y.1)) (ownFrom_below (Nat.le_refl _) (Nat.le_refl _)))
    (fun c => OwnFrom.and (Own.from (fun s A B row hs hg hr => ⟨hs.1, hs.2.1, cell_kept hs.2.2 hg hr⟩) _) (ownFrom_below (Nat.le_refl _) (by omega)))
    ⟨by simp, Below.refl _ _⟩
    ?a1 ?assign ?body ?done ?stop
  case assign =>
    intro l x W K hK
    gi_wp2
    exact hK
  case body =>
    rintro l pre ⟨i, hi, ht⟩ W ⟨hp, hBW⟩ _
    have hBk := hBu.below hBW
    have m0 := (hBW.cell (p := ⟨M1, 0, none⟩) hz1u).trans mu
    have s0 := (hBW.cell (p := ⟨M2, 0, none⟩) hz2u).trans su
    have g0 := (hBW.cell (p := ⟨w3.heap.size, 0, none⟩) hz3u).trans n0
    have g1 := (hBW.cell (p := ⟨w3.heap.size, 1, none⟩) hz3u).trans n1
    have g2 := (hBW.cell (p := ⟨w3.heap.size, 2, none⟩) hz3u).trans n2
    have g3 := (hBW.cell (p := ⟨w3.heap.size, 3, none⟩) hz3u).trans n3
    have g4 := (hBW.cell (p := ⟨w3.heap.size, 4, none⟩) hz3u).trans n4
    have hCW := hCu.below hBW
    have r0 := hCW.cell hi
    have hst := hCW.lt
    obtain ⟨hel, k0, k1, k2, k3, k4, _, _, _, _, _, _, pl⟩ := hBk.ent i hi
    have hM1 : M1 < W.heap.size := Nat.lt_of_lt_of_le hz1u hBW.size
    have hM2 : M2 < W.heap.size := Nat.lt_of_lt_of_le hz2u hBW.size
    have hM3 : w3.heap.size < W.heap.size := Nat.lt_of_lt_of_le hz3u hBW.size
    have hNW : w.heap.size + 1 < W.heap.size := Nat.lt_of_lt_of_le hNu hBW.size
    have hcr := (hBW.cell (p := ⟨w.heap.size + 1, 0, none⟩) hNu).trans ru
    have hfr := (hBW.frozen (p := ⟨w.heap.size + 1, 0, none⟩) hNu).trans fu
    have hnn := (unhide HS).n
    have HBk := hide hBk
    have HTW := hide (unhide HTl _ _ (unhide HT) (bwu.trans (hBW.mono (by omega))))
    have HHi := hide (unhide HH i hi ht)
    have hkey := ((unhide H2).pos hi ht).2
    clear hBk hCW mu su n0 n1 n2 n3 n4 mb0
    by_cases hc1 : cnt d.I i d.m + cnt d.X i d.x = 1
    case neg =>
      have HNO : Hid (¬ ok5 d H i) := hide (fun h => hc1 (h ht).1)
      have hc1' : (((cnt d.I i d.m + cnt d.X i d.x : Nat) : Int) != 1) = true := by simp; omega
      generalize cnt d.I i d.m + cnt d.X i d.x = cc at r0 hc1' hc1
      clear hc1
      gi_wp2
      refine wpIn_region_quiet (C := fun w' => Below W.heap.size W w') (by kernel_rfl) (by kernel_rfl) (by kernel_rfl) ((Below.refl _ _).drew) ?_
      show wpQuiet _ _ _ _ [_, _, _, _, _, _, _, _, _, _, _, _, _, _, _, _, _, _, _, _, _, _, _, _, _, _, _, _] _
      refine wpQuiet_step (fun K hK => ?_)
      go_simp
      apply Exists.intro
      refine And.intro (fun w' hw' => ?_) (hK _ ?_)
      · obtain ⟨hc', hf'⟩ := bcell hw'
        go_simp
        first | rfl | exact ⟨rfl, rfl⟩ | exact ⟨rfl⟩
      clear hK K
      refine wpQuiet_step (fun K hK => ?_)
      go_simp
      refine ⟨_, fun w' hw' => rfl, hK _ ?_⟩
      clear hK K
      refine wpQuiet_step (fun K hK => ?_)
      go_simp
      refine ⟨_, fun w' hw' => rfl, hK _ ?_⟩
      clear hK K
      refine wpQuiet_step (fun K hK => ?_)
      go_simp
      refine ⟨_, fun w' hw' => rfl, hK _ ?_⟩
      clear hK K
      refine wpQuiet_step (fun K hK => ?_)
      go_simp
      apply Exists.intro
      refine And.intro (fun w' hw' => ?_) (hK _ ?_)
      · obtain ⟨hc', hf'⟩ := bcell hw'
        go_simp
        first | rfl | exact ⟨rfl, rfl⟩ | exact ⟨rfl⟩
      clear hK K
      refine wpQuiet_step (fun K hK => ?_)
      go_simp
      refine ⟨_, fun w' hw' => rfl, hK _ ?_⟩
      clear hK K
      refine wpQuiet_step (fun K hK => ?_)
      go_simp
      apply Exists.intro
      refine And.intro (fun w' hw' => ?_) (hK _ ?_)
      · obtain ⟨hc', hf'⟩ := bcell hw'
        go_simp
        first | rfl | exact ⟨rfl, rfl⟩ | exact ⟨rfl⟩
      clear hK K
      refine wpQuiet_step (fun K hK => ?_)
      go_simp
      refine ⟨_, fun w' hw' => rfl, hK _ ?_⟩
      clear hK K
      refine wpQuiet_step (fun K hK => ?_)
      go_simp
      refine ⟨_, fun w' hw' => rfl, hK _ ?_⟩
      clear hK K
      go_big_quiet_step (fail)
      go_big_quiet_step (fail)
      go_big_quiet_step (fail)
      go_big_quiet_step (fail)
      go_big_quiet_step (fail)
      go_big_quiet_step (fail)
      go_big_quiet_step (fail)
      go_big_quiet_step (fail)
      go_big_quiet_step (fail)
      refine wpQuiet_step (fun K hK => ?_)
      go_simp
      refine ⟨_, fun w' hw' => rfl, hK _ ?_⟩
      clear hK K
      refine wpQuiet_step (fun K hK => ?_)
      go_simp
      refine ⟨_, fun w' hw' => rfl, hK _ ?_⟩
      clear hK K
      go_big_quiet_step (fail)
      go_big_quiet_step (fail)
      go_big_quiet_step (fail)
      go_big_quiet_step (fail)
      go_big_quiet_step (fail)
      go_big_quiet_step (fail)
      go_big_quiet_step (fail)
      refine wpQuiet_step (fun K hK => ?_)
      go_simp
      refine ⟨_, fun w' hw' => rfl, hK _ ?_⟩
      clear hK K
      refine wpQuiet_nil ?_
      intro w5 hw5
      have HK := hide (keeps_of_below hw5)
      have HB5 := hide (bwu.trans ((hBW.trans (hw5.mono hBW.size)).mono (by omega)))
      have v0 := (hw5.cell (p := ⟨w.heap.size + 1, 0, none⟩) hNW).trans hcr
      have v1 := (hw5.frozen (p := ⟨w.heap.size + 1, 0, none⟩) hNW).trans hfr
      clear hw5
      gi_wp2
      exact ⟨(unhide HK).trans (KeepsOthers.setCell _ _ _), ⟨rfl, ⟨⟨i, hi, ht⟩, by simp, unhide HNO⟩, World.cell?_setCell_same' _ _ _ (by rw [v0]; rfl)⟩, (unhide HB5).setCell (p := ⟨w.heap.size + 1, 0, none⟩) (by show w.heap.size ≤ w.heap.size + 1; omega) _⟩
    have HC1 := hide hc1
    rw [hc1] at r0
    have hc1' : (((1 : Nat) : Int) != 1) = false := rfl
    obtain ⟨hp1, hp2⟩ := place_range (unhide H3) (unhide H4) (d.L i).key (H i)
    have hcall := fun W' hT' hB' => bfind_any T (unhide HTl) bk R0 R1 R2 E S d (d.L i).key (H i) (unhide HHi) W' hT' hB' (unhide HS) (unhide H3) (unhide H4)
    have HOK : Hid (ok5 d H i ↔ placeI d (d.L i).key (H i) = (i : Int) ∧ ¬ ((d.L i).key.kind = 2 ∧ (d.L i).key.num = (d.m : Int) + 1)) := hide ⟨fun h => (h ht).2, fun h _ => ⟨hc1, h⟩⟩
    generalize placeI d (d.L i).key (H i) = pl0 at hp1 hp2 hcall HOK
    have HCALL := hide hcall
    clear hcall hc1
    by_cases hpp : pl0 = (i : Int)
    case neg =>
      have HNO : Hid (¬ ok5 d H i) := hide (fun h => hpp ((unhide HOK).1 h).1)
      gi_wp2
      refine wpIn_region_quiet (C := fun w' => Below W.heap.size W w') (by kernel_rfl) (by kernel_rfl) (by kernel_rfl) ((Below.refl _ _).drew) ?_
      show wpQuiet _ _ _ _ [_, _, _, _, _, _, _, _, _, _, _, _, _, _, _, _, _, _, _, _, _, _, _, _, _, _, _, _] _
      refine wpQuiet_step (fun K hK => ?_)
      go_simp
      apply Exists.intro
      refine And.intro (fun w' hw' => ?_) (hK _ ?_)
      · obtain ⟨hc', hf'⟩ := bcell hw'
        go_simp
        first | rfl | exact ⟨rfl, rfl⟩ | exact ⟨rfl⟩
      clear hK K
      refine wpQuiet_step (fun K hK => ?_)
      go_simp
      refine ⟨_, fun w' hw' => rfl, hK _ ?_⟩
      clear hK K
      refine wpQuiet_step (fun K hK => ?_)
      go_simp
      refine ⟨_, fun w' hw' => rfl, hK _ ?_⟩
      clear hK K
      refine wpQuiet_step (fun K hK => ?_)
      go_simp
      refine ⟨_, fun w' hw' => rfl, hK _ ?_⟩
      clear hK K
      refine wpQuiet_step (fun K hK => ?_)
      go_simp
      apply Exists.intro
      refine And.intro (fun w' hw' => ?_) (hK _ ?_)
      · obtain ⟨hc', hf'⟩ := bcell hw'
        go_simp
        first | rfl | exact ⟨rfl, rfl⟩ | exact ⟨rfl⟩
      clear hK K
      refine wpQuiet_step (fun K hK => ?_)
      go_simp
      refine ⟨_, fun w' hw' => rfl, hK _ ?_⟩
      clear hK K
      refine wpQuiet_step (fun K hK => ?_)
      go_simp
      apply Exists.intro
      refine And.intro (fun w' hw' => ?_) (hK _ ?_)
      · obtain ⟨hc', hf'⟩ := bcell hw'
        go_simp
        first | rfl | exact ⟨rfl, rfl⟩ | exact ⟨rfl⟩
      clear hK K
      refine wpQuiet_step (fun K hK => ?_)
      go_simp
      refine ⟨_, fun w' hw' => rfl, hK _ ?_⟩
      clear hK K
      refine wpQuiet_step (fun K hK => ?_)
      go_simp
      refine ⟨_, fun w' hw' => rfl, hK _ ?_⟩
      clear hK K
      refine wpQuiet_step (fun K hK => ?_)
      go_simp
      apply Exists.intro
      refine And.intro (fun w' hw' => ?_) (hK _ ?_)
      · obtain ⟨hc', hf'⟩ := bcell hw'
        go_simp
        first | rfl | exact ⟨rfl, rfl⟩ | exact ⟨rfl⟩
      clear hK K
      refine wpQuiet_step (fun K hK => ?_)
      go_simp
      refine ⟨_, fun w' hw' => rfl, hK _ ?_⟩
      clear hK K
      refine wpQuiet_step (fun K hK => ?_)
      go_simp
      refine ⟨_, fun w' hw' => rfl, hK _ ?_⟩
      clear hK K
      refine wpQuiet_step (fun K hK => ?_)
      go_simp
      refine ⟨_, fun w' hw' => rfl, hK _ ?_⟩
      clear hK K
      refine wpQuiet_step (fun K hK => ?_)
      go_simp
      refine ⟨_, fun w' hw' => rfl, hK _ ?_⟩
      clear hK K
      refine wpQuiet_step (fun K hK => ?_)
      go_simp
      apply Exists.intro
      refine And.intro (fun w' hw' => ?_) (hK _ ?_)
      · obtain ⟨hc', hf'⟩ := bcell hw'
        go_simp
        first | rfl | exact ⟨rfl, rfl⟩ | exact ⟨rfl⟩
      clear hK K
      refine wpQuiet_step (fun K hK => ?_)
      go_simp
      apply Exists.intro
      refine And.intro (fun w' hw' => ?_) (hK _ ?_)
      · refine (((unhide HCALL) _ (unhide HTl _ _ (unhide HTW) hw') ((unhide HBk).below hw'))).mono ?_
        rintro e w'' ⟨rfl, hb⟩
        exact ⟨rfl, hw'.trans (hb.mono hw'.size)⟩
      clear hK K
      refine wpQuiet_step (fun K hK => ?_)
      go_simp
      refine ⟨_, fun w' hw' => rfl, hK _ ?_⟩
      clear hK K
      refine wpQuiet_step (fun K hK => ?_)
      go_simp
      refine ⟨.bool true, fun w' hw' => ?_, hK _ ?_⟩
      · rw [neq_ent ((unhide HBk).below hw') hp1 hp2 hi]
        simp [hpp]
      clear hK K
      refine wpQuiet_step (fun K hK => ?_)
      go_simp
      refine ⟨_, fun w' hw' => rfl, hK _ ?_⟩
      clear hK K
      refine wpQuiet_step (fun K hK => ?_)
      go_simp
      refine ⟨_, fun w' hw' => rfl, hK _ ?_⟩
      clear hK K
      go_big_quiet_step (fail)
      go_big_quiet_step (fail)
      go_big_quiet_step (fail)
      go_big_quiet_step (fail)
      go_big_quiet_step (fail)
      go_big_quiet_step (fail)
      go_big_quiet_step (fail)
      refine wpQuiet_step (fun K hK => ?_)
      go_simp
      refine ⟨_, fun w' hw' => rfl, hK _ ?_⟩
      clear hK K
      refine wpQuiet_nil ?_
      intro w5 hw5
      have HK := hide (keeps_of_below hw5)
      have HB5 := hide (bwu.trans ((hBW.trans (hw5.mono hBW.size)).mono (by omega)))
      have v0 := (hw5.cell (p := ⟨w.heap.size + 1, 0, none⟩) hNW).trans hcr
      have v1 := (hw5.frozen (p := ⟨w.heap.size + 1, 0, none⟩) hNW).trans hfr
      clear hw5
      gi_wp2
      exact ⟨(unhide HK).trans (KeepsOthers.setCell _ _ _), ⟨rfl, ⟨⟨i, hi, ht⟩, by simp, unhide HNO⟩, World.cell?_setCell_same' _ _ _ (by rw [v0]; rfl)⟩, (unhide HB5).setCell (p := ⟨w.heap.size + 1, 0, none⟩) (by show w.heap.size ≤ w.heap.size + 1; omega) _⟩
    subst hpp
    by_cases hnx : (d.L i).key.kind = 2 ∧ (d.L i).key.num = (d.m : Int) + 1
    · have HNO : Hid (¬ ok5 d H i) := hide (fun h => ((unhide HOK).1 h).2 hnx)
      have HNX := hide hnx
      have HF := hide (int_key hkey hnx.1)
      clear hnx hkey
      gi_wp2
      refine wpIn_region_quiet (C := fun w' => Below W.heap.size W w') (by kernel_rfl) (by kernel_rfl) (by kernel_rfl) ((Below.refl _ _).drew) ?_
      show wpQuiet _ _ _ _ [_, _, _, _, _, _, _, _, _, _, _, _, _, _, _, _, _, _, _, _, _, _, _, _, _, _, _, _] _
      refine wpQuiet_step (fun K hK => ?_)
      go_simp
      apply Exists.intro
      refine And.intro (fun w' hw' => ?_) (hK _ ?_)
      · obtain ⟨hc', hf'⟩ := bcell hw'
        go_simp
        first | rfl | exact ⟨rfl, rfl⟩ | exact ⟨rfl⟩
      clear hK K
      refine wpQuiet_step (fun K hK => ?_)
      go_simp
      refine ⟨_, fun w' hw' => rfl, hK _ ?_⟩
      clear hK K
      refine wpQuiet_step (fun K hK => ?_)
      go_simp
      refine ⟨_, fun w' hw' => rfl, hK _ ?_⟩
      clear hK K
      refine wpQuiet_step (fun K hK => ?_)
      go_simp
      refine ⟨_, fun w' hw' => rfl, hK _ ?_⟩
      clear hK K
      refine wpQuiet_step (fun K hK => ?_)
      go_simp
      apply Exists.intro
      refine And.intro (fun w' hw' => ?_) (hK _ ?_)
      · obtain ⟨hc', hf'⟩ := bcell hw'
        go_simp
        first | rfl | exact ⟨rfl, rfl⟩ | exact ⟨rfl⟩
      clear hK K
      refine wpQuiet_step (fun K hK => ?_)
      go_simp
      refine ⟨_, fun w' hw' => rfl, hK _ ?_⟩
      clear hK K
      refine wpQuiet_step (fun K hK => ?_)
      go_simp
      apply Exists.intro
      refine And.intro (fun w' hw' => ?_) (hK _ ?_)
      · obtain ⟨hc', hf'⟩ := bcell hw'
        go_simp
        first | rfl | exact ⟨rfl, rfl⟩ | exact ⟨rfl⟩
      clear hK K
      refine wpQuiet_step (fun K hK => ?_)
      go_simp
      refine ⟨_, fun w' hw' => rfl, hK _ ?_⟩
      clear hK K
      refine wpQuiet_step (fun K hK => ?_)
      go_simp
      refine ⟨_, fun w' hw' => rfl, hK _ ?_⟩
      clear hK K
      refine wpQuiet_step (fun K hK => ?_)
      go_simp
      apply Exists.intro
      refine And.intro (fun w' hw' => ?_) (hK _ ?_)
      · obtain ⟨hc', hf'⟩ := bcell hw'
        go_simp
        first | rfl | exact ⟨rfl, rfl⟩ | exact ⟨rfl⟩
      clear hK K
      refine wpQuiet_step (fun K hK => ?_)
      go_simp
      refine ⟨_, fun w' hw' => rfl, hK _ ?_⟩
      clear hK K
      refine wpQuiet_step (fun K hK => ?_)
      go_simp
      refine ⟨_, fun w' hw' => rfl, hK _ ?_⟩
      clear hK K
      refine wpQuiet_step (fun K hK => ?_)
      go_simp
      refine ⟨_, fun w' hw' => rfl, hK _ ?_⟩
      clear hK K
      refine wpQuiet_step (fun K hK => ?_)
      go_simp
      refine ⟨_, fun w' hw' => rfl, hK _ ?_⟩
      clear hK K
      refine wpQuiet_step (fun K hK => ?_)
      go_simp
      apply Exists.intro
      refine And.intro (fun w' hw' => ?_) (hK _ ?_)
      · obtain ⟨hc', hf'⟩ := bcell hw'
        go_simp
        first | rfl | exact ⟨rfl, rfl⟩ | exact ⟨rfl⟩
      clear hK K
      refine wpQuiet_step (fun K hK => ?_)
      go_simp
      apply Exists.intro
      refine And.intro (fun w' hw' => ?_) (hK _ ?_)
      · refine (((unhide HCALL) _ (unhide HTl _ _ (unhide HTW) hw') ((unhide HBk).below hw'))).mono ?_
        rintro e w'' ⟨rfl, hb⟩
        exact ⟨rfl, hw'.trans (hb.mono hw'.size)⟩
      clear hK K
      refine wpQuiet_step (fun K hK => ?_)
      go_simp
      refine ⟨_, fun w' hw' => rfl, hK _ ?_⟩
      clear hK K
      refine wpQuiet_step (fun K hK => ?_)
      go_simp
      refine ⟨.bool false, fun w' hw' => ?_, hK _ ?_⟩
      · rw [neq_ent ((unhide HBk).below hw') hp1 hp2 hi]
        simp
      clear hK K
      refine wpQuiet_step (fun K hK => ?_)
      go_simp
      refine ⟨_, fun w' hw' => rfl, hK _ ?_⟩
      clear hK K
      refine wpQuiet_step (fun K hK => ?_)
      go_simp
      refine ⟨_, fun w' hw' => rfl, hK _ ?_⟩
      clear hK K
      refine wpQuiet_step (fun K hK => ?_)
      go_simp
      refine ⟨_, fun w' hw' => rfl, hK _ ?_⟩
      clear hK K
      refine wpQuiet_step (fun K hK => ?_)
      go_simp
      refine ⟨_, fun w' hw' => rfl, hK _ ?_⟩
      clear hK K
      refine wpQuiet_step (fun K hK => ?_)
      go_simp
      refine ⟨_, fun w' hw' => rfl, hK _ ?_⟩
      clear hK K
      refine wpQuiet_step (fun K hK => ?_)
      go_simp
      refine ⟨_, fun w' hw' => rfl, hK _ ?_⟩
      clear hK K
      refine wpQuiet_step (fun K hK => ?_)
      go_simp
      apply Exists.intro
      refine And.intro (fun w' hw' => ?_) (hK _ ?_)
      · obtain ⟨hc', hf'⟩ := bcell hw'
        go_simp
        first | rfl | exact ⟨rfl, rfl⟩ | exact ⟨rfl⟩
      clear hK K
      refine wpQuiet_step (fun K hK => ?_)
      go_simp
      apply Exists.intro
      refine And.intro (fun w' hw' => ?_) (hK _ ?_)
      · obtain ⟨hc', hf'⟩ := bcell hw'
        go_simp
        first | rfl | exact ⟨rfl, rfl⟩ | exact ⟨rfl⟩
      clear hK K
      refine wpQuiet_step (fun K hK => ?_)
      go_simp
      refine ⟨.bool true, fun w' hw' => ?_, hK _ ?_⟩
      · obtain ⟨x1, x2⟩ := unhide HNX
        obtain ⟨x3, x4, x5⟩ := unhide HF
        have x3' : FloatKind.f64.format.order (d.L i).key.flt 0 = some Ordering.eq := by simpa using x3
        have x4' : (d.L i).key.str.toList = [] := List.isEmpty_iff.1 x4
        simp only [x1, x2, x5, x3', x4', if_true]
        exact ⟨trivial, trivial⟩
      clear hK K
      refine wpQuiet_step (fun K hK => ?_)
      go_simp
      refine ⟨_, fun w' hw' => rfl, hK _ ?_⟩
      clear hK K
      refine wpQuiet_nil ?_
      intro w5 hw5
      have HK := hide (keeps_of_below hw5)
      have HB5 := hide (bwu.trans ((hBW.trans (hw5.mono hBW.size)).mono (by omega)))
      have v0 := (hw5.cell (p := ⟨w.heap.size + 1, 0, none⟩) hNW).trans hcr
      have v1 := (hw5.frozen (p := ⟨w.heap.size + 1, 0, none⟩) hNW).trans hfr
      clear hw5
      gi_wp2
      exact ⟨(unhide HK).trans (KeepsOthers.setCell _ _ _), ⟨rfl, ⟨⟨i, hi, ht⟩, by simp, unhide HNO⟩, World.cell?_setCell_same' _ _ _ (by rw [v0]; rfl)⟩, (unhide HB5).setCell (p := ⟨w.heap.size + 1, 0, none⟩) (by show w.heap.size ≤ w.heap.size + 1; omega) _⟩
    · have HO : Hid (ok5 d H i) := hide ((unhide HOK).2 ⟨rfl, hnx⟩)
      have HP := hide hp
      have HNX := hide hnx
      clear hp hnx
      gi_wp2
      refine wpIn_region_quiet (C := fun w' => Below W.heap.size W w') (by kernel_rfl) (by kernel_rfl) (by kernel_rfl) ((Below.refl _ _).drew) ?_
      show wpQuiet _ _ _ _ [_, _, _, _, _, _, _, _, _, _, _, _, _, _, _, _, _, _, _, _, _, _, _, _, _, _, _, _] _
      refine wpQuiet_step (fun K hK => ?_)
      go_simp
      apply Exists.intro
      refine And.intro (fun w' hw' => ?_) (hK _ ?_)
      · obtain ⟨hc', hf'⟩ := bcell hw'
        go_simp
        first | rfl | exact ⟨rfl, rfl⟩ | exact ⟨rfl⟩
      clear hK K
      refine wpQuiet_step (fun K hK => ?_)
      go_simp
      refine ⟨_, fun w' hw' => rfl, hK _ ?_⟩
      clear hK K
      refine wpQuiet_step (fun K hK => ?_)
      go_simp
      refine ⟨_, fun w' hw' => rfl, hK _ ?_⟩
      clear hK K
      refine wpQuiet_step (fun K hK => ?_)
      go_simp
      refine ⟨_, fun w' hw' => rfl, hK _ ?_⟩
      clear hK K
      refine wpQuiet_step (fun K hK => ?_)
      go_simp
      apply Exists.intro
      refine And.intro (fun w' hw' => ?_) (hK _ ?_)
      · obtain ⟨hc', hf'⟩ := bcell hw'
        go_simp
        first | rfl | exact ⟨rfl, rfl⟩ | exact ⟨rfl⟩
      clear hK K
      refine wpQuiet_step (fun K hK => ?_)
      go_simp
      refine ⟨_, fun w' hw' => rfl, hK _ ?_⟩
      clear hK K
      refine wpQuiet_step (fun K hK => ?_)
      go_simp
      apply Exists.intro
      refine And.intro (fun w' hw' => ?_) (hK _ ?_)
      · obtain ⟨hc', hf'⟩ := bcell hw'
        go_simp
        first | rfl | exact ⟨rfl, rfl⟩ | exact ⟨rfl⟩
      clear hK K
      refine wpQuiet_step (fun K hK => ?_)
      go_simp
      refine ⟨_, fun w' hw' => rfl, hK _ ?_⟩
      clear hK K
      refine wpQuiet_step (fun K hK => ?_)
      go_simp
      refine ⟨_, fun w' hw' => rfl, hK _ ?_⟩
      clear hK K
      refine wpQuiet_step (fun K hK => ?_)
      go_simp
      apply Exists.intro
      refine And.intro (fun w' hw' => ?_) (hK _ ?_)
      · obtain ⟨hc', hf'⟩ := bcell hw'
        go_simp
        first | rfl | exact ⟨rfl, rfl⟩ | exact ⟨rfl⟩
      clear hK K
      refine wpQuiet_step (fun K hK => ?_)
      go_simp
      refine ⟨_, fun w' hw' => rfl, hK _ ?_⟩
      clear hK K
      refine wpQuiet_step (fun K hK => ?_)
      go_simp
      refine ⟨_, fun w' hw' => rfl, hK _ ?_⟩
      clear hK K
      refine wpQuiet_step (fun K hK => ?_)
      go_simp
      refine ⟨_, fun w' hw' => rfl, hK _ ?_⟩
      clear hK K
      refine wpQuiet_step (fun K hK => ?_)
      go_simp
      refine ⟨_, fun w' hw' => rfl, hK _ ?_⟩
      clear hK K
      refine wpQuiet_step (fun K hK => ?_)
      go_simp
      apply Exists.intro
      refine And.intro (fun w' hw' => ?_) (hK _ ?_)
      · obtain ⟨hc', hf'⟩ := bcell hw'
        go_simp
        first | rfl | exact ⟨rfl, rfl⟩ | exact ⟨rfl⟩
      clear hK K
      refine wpQuiet_step (fun K hK => ?_)
      go_simp
      apply Exists.intro
      refine And.intro (fun w' hw' => ?_) (hK _ ?_)
      · refine (((unhide HCALL) _ (unhide HTl _ _ (unhide HTW) hw') ((unhide HBk).below hw'))).mono ?_
        rintro e w'' ⟨rfl, hb⟩
        exact ⟨rfl, hw'.trans (hb.mono hw'.size)⟩
      clear hK K
      refine wpQuiet_step (fun K hK => ?_)
      go_simp
      refine ⟨_, fun w' hw' => rfl, hK _ ?_⟩
      clear hK K
      refine wpQuiet_step (fun K hK => ?_)
      go_simp
      refine ⟨.bool false, fun w' hw' => ?_, hK _ ?_⟩
      · rw [neq_ent ((unhide HBk).below hw') hp1 hp2 hi]
        simp
      clear hK K
      refine wpQuiet_step (fun K hK => ?_)
      go_simp
      refine ⟨_, fun w' hw' => rfl, hK _ ?_⟩
      clear hK K
      refine wpQuiet_step (fun K hK => ?_)
      go_simp
      refine ⟨_, fun w' hw' => rfl, hK _ ?_⟩
      clear hK K
      refine wpQuiet_step (fun K hK => ?_)
      go_simp
      refine ⟨_, fun w' hw' => rfl, hK _ ?_⟩
      clear hK K
      refine wpQuiet_step (fun K hK => ?_)
      go_simp
      refine ⟨_, fun w' hw' => rfl, hK _ ?_⟩
      clear hK K
      refine wpQuiet_step (fun K hK => ?_)
      go_simp
      refine ⟨_, fun w' hw' => rfl, hK _ ?_⟩
      clear hK K
      refine wpQuiet_step (fun K hK => ?_)
      go_simp
      refine ⟨_, fun w' hw' => rfl, hK _ ?_⟩
      clear hK K
      refine wpQuiet_step (fun K hK => ?_)
      go_simp
      apply Exists.intro
      refine And.intro (fun w' hw' => ?_) (hK _ ?_)
      · obtain ⟨hc', hf'⟩ := bcell hw'
        go_simp
        first | rfl | exact ⟨rfl, rfl⟩ | exact ⟨rfl⟩
      clear hK K
      refine wpQuiet_step (fun K hK => ?_)
      go_simp
      apply Exists.intro
      refine And.intro (fun w' hw' => ?_) (hK _ ?_)
      · obtain ⟨hc', hf'⟩ := bcell hw'
        go_simp
        first | rfl | exact ⟨rfl, rfl⟩ | exact ⟨rfl⟩
      clear hK K
      refine wpQuiet_step (fun K hK => ?_)
      go_simp
      refine ⟨.bool false, fun w' hw' => ?_, hK _ ?_⟩
      · have hno := unhide HNX
        by_cases q1 : (d.L i).key.kind = 2
        · have q2 : ¬ (d.L i).key.num = (d.m : Int) + 1 := fun h => hno ⟨q1, h⟩
          simp only [q1, q2, if_true, if_false]
          exact ⟨trivial, trivial⟩
        · simp only [q1, if_false]
          exact ⟨trivial, trivial⟩
      clear hK K
      refine wpQuiet_step (fun K hK => ?_)
      go_simp
      refine ⟨_, fun w' hw' => rfl, hK _ ?_⟩
      clear hK K
      refine wpQuiet_nil ?_
      intro w5 hw5
      have HK := hide (keeps_of_below hw5)
      have HB5 := hide hw5
      clear hw5
      gi_wp2
      exact ⟨unhide HK, (unhide HB5).mono hBW.size, fun y hy => (List.mem_append.1 hy).elim (unhide HP y) (fun e => by simp at e; subst e; exact unhide HO), hBW.trans ((unhide HB5).mono hBW.size)⟩
  case done =>
    rintro D ys W hD hlv ⟨hp, hBW⟩ hK
    have HR : Hid (tells (D5 d H) = true) := hide (tells_yes (fun i hi ht => by
      have hm : i ∈ ys.map (·.1) := by rw [show ys.map (·.1) = livL d d.n from hlv]; exact mem_livL.2 ⟨hi, ht⟩
      obtain ⟨y, hy, rfl⟩ := List.mem_map.1 hm
      exact hp y hy ht))
    have hcr := (hBW.cell (p := ⟨w.heap.size + 1, 0, none⟩) hNu).trans ru
    have hfr := (hBW.frozen (p := ⟨w.heap.size + 1, 0, none⟩) hNu).trans fu
    clear hlv hp
    gi_wp2
    have hK' := (KeepsOthers.setCell W ⟨w.heap.size + 1, 0, none⟩ (.bool true)).same D _ hK rfl
    refine ⟨by simp, .inl ⟨_, _, rfl, run_takeDeferred hK', ?_⟩⟩
    have hc5 := cell_kept (World.cell?_setCell_same' W ⟨w.heap.size + 1, 0, none⟩ (.bool true) (by rw [hcr]; rfl)) (grownBy_putObj' _ D (.deferred none)) (fun r e => by cases e; exact ⟨_, hK', rfl⟩)
    refine ⟨.bool true, ?_, by rw [unhide HR], ((bwu.trans (hBW.mono (by omega))).setCell (p := ⟨w.heap.size + 1, 0, none⟩) (by show w.heap.size ≤ w.heap.size + 1; omega) _).trans (belowK_b (w := w) (Nat.le_refl _) _ D _ _ (by omega) hK' rfl rfl)⟩
    simp [results, Tryz.f64, go_sem, hc5]
  case stop =>
    rintro D c pre W hD hpre ⟨⟨rfl, ⟨y, hy, hno⟩, hcr⟩, hBW⟩ hK
    have HR : Hid (tells (D5 d H) = false) := hide (not_D5 y.2.1 hno)
    clear hpre hno hy
    gi_wp2
    refine ⟨by simp, .inl ⟨_, _, rfl, run_takeDeferred hK, ?_⟩⟩
    have hc5 := cell_kept hcr (grownBy_putObj' _ D (.deferred none)) (fun r e => by cases e; exact ⟨_, hK, rfl⟩)
    refine ⟨.bool false, ?_, by rw [unhide HR], hBW.trans (belowK_b (w := w) (Nat.le_refl _) W D _ _ (by omega) hK rfl rfl)⟩
    simp [results, Tryz.f64, go_sem, hc5]
end Go.Proofs.YtglcaejddckleaaGreatDoor

namespace Go.Proofs.YtglcaejddckleaaGreatDoor
open Go.RowKit Go.Shelf
set_option linter.unusedVariables false
attribute [local go_sem] run_store_float run_equalIn_float run_store_func

theorem ix0 (x : Value) (w : World) : (Instr.index 86 (.agg #[.func (.func 60) #[x] #[], .func (.func 61) #[x] #[], .func (.func 62) #[x] #[], .func (.func 63) #[x] #[], .func (.func 64) #[x] #[]]) (.int .i64 0)).run Tryz.prog w = .ok (.func (.func 60) #[x] #[]) w := by kernel_rfl
theorem ix1 (x : Value) (w : World) : (Instr.index 86 (.agg #[.func (.func 60) #[x] #[], .func (.func 61) #[x] #[], .func (.func 62) #[x] #[], .func (.func 63) #[x] #[], .func (.func 64) #[x] #[]]) (.int .i64 1)).run Tryz.prog w = .ok (.func (.func 61) #[x] #[]) w := by kernel_rfl
theorem ix2 (x : Value) (w : World) : (Instr.index 86 (.agg #[.func (.func 60) #[x] #[], .func (.func 61) #[x] #[], .func (.func 62) #[x] #[], .func (.func 63) #[x] #[], .func (.func 64) #[x] #[]]) (.int .i64 2)).run Tryz.prog w = .ok (.func (.func 62) #[x] #[]) w := by kernel_rfl
theorem ix3 (x : Value) (w : World) : (Instr.index 86 (.agg #[.func (.func 60) #[x] #[], .func (.func 61) #[x] #[], .func (.func 62) #[x] #[], .func (.func 63) #[x] #[], .func (.func 64) #[x] #[]]) (.int .i64 3)).run Tryz.prog w = .ok (.func (.func 63) #[x] #[]) w := by kernel_rfl
theorem ix4 (x : Value) (w : World) : (Instr.index 86 (.agg #[.func (.func 60) #[x] #[], .func (.func 61) #[x] #[], .func (.func 62) #[x] #[], .func (.func 63) #[x] #[], .func (.func 64) #[x] #[]]) (.int .i64 4)).run Tryz.prog w = .ok (.func (.func 64) #[x] #[]) w := by kernel_rfl

set_option maxRecDepth 100000 in
set_option maxHeartbeats 4000000 in
theorem implDictOk (T : World → Prop) (hTl : Lasts T) (la : Option Addr) (lc : Nat) (ia : Option Addr) (ic : Nat) (xa : Option Addr) (xc : Nat) (d : Dc) (H : Nat → Nat) (w : World) (hT : T w) (hD : DAt w la ia xa d) (hS : Small d) (hH : ∀ i, i < d.n → keyB (d.L i).key = true → HsI T (d.L i).key (H i)) :
    Calls Tryz.prog 18 #[Dv la lc ia ic xa xc d] w fun e w' => e = .returned (.int .i64 (dictOk d H)) ∧ Below w.heap.size w w' := by
  have HTl := hide hTl
  have HT := hide hT
  have HD := hide hD
  have HS := hide hS
  have HH := hide hH
  clear hTl hT hD hS hH
  go_enter Tryz.func18, Tryz.ntmps18
  go_wp2_with fail
  obtain ⟨u, hu⟩ : ∃ u, u = (((w.alloc (.cells #[.slice la d.n lc, .slice ia d.m ic, .slice xa d.x xc, .int .i64 d.used, .int .i64 d.live, .int .i64 d.turns] 26)).alloc (.cells #[.slice la d.n lc, .slice ia d.m ic, .slice xa d.x xc, .int .i64 d.used, .int .i64 d.live, .int .i64 d.turns] 84)).alloc (.cells #[.func (.func 60) #[Dv la lc ia ic xa xc d] #[], .func (.func 61) #[Dv la lc ia ic xa xc d] #[], .func (.func 62) #[Dv la lc ia ic xa xc d] #[], .func (.func 63) #[Dv la lc ia ic xa xc d] #[], .func (.func 64) #[Dv la lc ia ic xa xc d] #[]] 86)) := ⟨_, rfl⟩
  rw [← hu]
  have HBu : Hid (Below w.heap.size w u) := hide (by rw [hu]; exact (((Below.refl _ _).alloc (Nat.le_refl _) _).alloc (by simp) _).alloc (by simp; omega) _)
  clear hu
  have i0 := ix0 (Dv la lc ia ic xa xc d)
  have i1 := ix1 (Dv la lc ia ic xa xc d)
  have i2 := ix2 (Dv la lc ia ic xa xc d)
  have i3 := ix3 (Dv la lc ia ic xa xc d)
  have i4 := ix4 (Dv la lc ia ic xa xc d)
  go_loopw [21] (fun i wr => (i = .int .i64 0 ∧ Below w.heap.size w wr) ∨ (i = .int .i64 1 ∧ D1 d ∧ Below w.heap.size w wr) ∨ (i = .int .i64 2 ∧ D1 d ∧ D2 d ∧ Below w.heap.size w wr) ∨ (i = .int .i64 3 ∧ D1 d ∧ D2 d ∧ D3 d ∧ Below w.heap.size w wr) ∨ (i = .int .i64 4 ∧ D1 d ∧ D2 d ∧ D3 d ∧ D4 d ∧ Below w.heap.size w wr) ∨ (i = .int .i64 5 ∧ D1 d ∧ D2 d ∧ D3 d ∧ D4 d ∧ D5 d H ∧ Below w.heap.size w wr)) (fun i _ => 5 - (intOf i).toNat)
  case atStart => exact .inl ⟨rfl, unhide HBu⟩
  case round =>
    clear HBu
    rcases hrel with ⟨rfl, hb⟩ | ⟨rfl, h1, hb⟩ | ⟨rfl, h1, h2, hb⟩ | ⟨rfl, h1, h2, h3, hb⟩ | ⟨rfl, h1, h2, h3, h4, hb⟩ | ⟨rfl, h1, h2, h3, h4, h5, hb⟩
    · have HB := hide hb
      have hcall := countsFit_any la lc ia ic xa xc d wr (unhide HS)
      have HC := hide hcall
      clear hb hcall
      go_wp2_with fail
      refine (unhide HC).mono ?_
      rintro e w2 ⟨rfl, hb2⟩
      have HB2 := hide ((unhide HB).trans (hb2.mono (unhide HB).size))
      clear hb2 HC
      by_cases hh : D1 d
      · rw [tells_yes hh]
        have HH2 := hide hh
        clear hh
        go_wp2_with fail
        go_roundw
        case rel => exact .inr (.inl ⟨rfl, unhide HH2, unhide HB2⟩)
        case measure => simp [intOf]
      · rw [tells_no hh]
        have HT2 := hide (dictOk1 (H := H) hh)
        clear hh
        go_wp2_with fail
        go_ret
        exact ⟨by rw [unhide HT2]; rfl, unhide HB2⟩
    · have HB := hide hb
      have hcall := logHolds_any la lc ia ic xa xc d wr ((unhide HD).below hb) (unhide HS)
      have HC := hide hcall
      have Hh1 := hide h1
      clear hb hcall h1
      go_wp2_with fail
      refine (unhide HC).mono ?_
      rintro e w2 ⟨rfl, hb2⟩
      have HB2 := hide ((unhide HB).trans (hb2.mono (unhide HB).size))
      clear hb2 HC
      by_cases hh : D2 d
      · rw [tells_yes hh]
        have HH2 := hide hh
        clear hh
        go_wp2_with fail
        go_roundw
        case rel => exact .inr (.inr (.inl ⟨rfl, unhide Hh1, unhide HH2, unhide HB2⟩))
        case measure => simp [intOf]
      · rw [tells_no hh]
        have HT2 := hide (dictOk2 (H := H) (unhide Hh1) hh)
        clear hh
        go_wp2_with fail
        go_ret
        exact ⟨by rw [unhide HT2]; rfl, unhide HB2⟩
    · have HB := hide hb
      have hcall := intsHold_any la lc ia ic xa xc d wr ((unhide HD).below hb) (unhide HS) h2
      have HC := hide hcall
      have Hh1 := hide h1
      have Hh2 := hide h2
      clear hb hcall h1 h2
      go_wp2_with fail
      refine (unhide HC).mono ?_
      rintro e w2 ⟨rfl, hb2⟩
      have HB2 := hide ((unhide HB).trans (hb2.mono (unhide HB).size))
      clear hb2 HC
      by_cases hh : D3 d
      · rw [tells_yes hh]
        have HH2 := hide hh
        clear hh
        go_wp2_with fail
        go_roundw
        case rel => exact .inr (.inr (.inr (.inl ⟨rfl, unhide Hh1, unhide Hh2, unhide HH2, unhide HB2⟩)))
        case measure => simp [intOf]
      · rw [tells_no hh]
        have HT2 := hide (dictOk3 (H := H) (unhide Hh1) (unhide Hh2) hh)
        clear hh
        go_wp2_with fail
        go_ret
        exact ⟨by rw [unhide HT2]; rfl, unhide HB2⟩
    · have HB := hide hb
      have hcall := indexHolds_any la lc ia ic xa xc d wr ((unhide HD).below hb) (unhide HS) h2
      have HC := hide hcall
      have Hh1 := hide h1
      have Hh2 := hide h2
      have Hh3 := hide h3
      clear hb hcall h1 h2 h3
      go_wp2_with fail
      refine (unhide HC).mono ?_
      rintro e w2 ⟨rfl, hb2⟩
      have HB2 := hide ((unhide HB).trans (hb2.mono (unhide HB).size))
      clear hb2 HC
      by_cases hh : D4 d
      · rw [tells_yes hh]
        have HH2 := hide hh
        clear hh
        go_wp2_with fail
        go_roundw
        case rel => exact .inr (.inr (.inr (.inr (.inl ⟨rfl, unhide Hh1, unhide Hh2, unhide Hh3, unhide HH2, unhide HB2⟩))))
        case measure => simp [intOf]
      · rw [tells_no hh]
        have HT2 := hide (dictOk4 (H := H) (unhide Hh1) (unhide Hh2) (unhide Hh3) hh)
        clear hh
        go_wp2_with fail
        go_ret
        exact ⟨by rw [unhide HT2]; rfl, unhide HB2⟩
    · have HB := hide hb
      have hcall := allAreFound_any T (unhide HTl) la lc ia ic xa xc d H wr (unhide HTl _ _ (unhide HT) hb) ((unhide HD).below hb) (unhide HS) h2 h3 h4 (fun i hi ht => unhide HH i hi (h2.pos hi ht).2)
      have HC := hide hcall
      have Hh1 := hide h1
      have Hh2 := hide h2
      have Hh3 := hide h3
      have Hh4 := hide h4
      clear hb hcall h1 h2 h3 h4
      go_wp2_with fail
      refine (unhide HC).mono ?_
      rintro e w2 ⟨rfl, hb2⟩
      have HB2 := hide ((unhide HB).trans (hb2.mono (unhide HB).size))
      clear hb2 HC
      by_cases hh : D5 d H
      · rw [tells_yes hh]
        have HH2 := hide hh
        clear hh
        go_wp2_with fail
        go_roundw
        case rel => exact .inr (.inr (.inr (.inr (.inr (⟨rfl, unhide Hh1, unhide Hh2, unhide Hh3, unhide Hh4, unhide HH2, unhide HB2⟩)))))
        case measure => simp [intOf]
      · rw [tells_no hh]
        have HT2 := hide (dictOk5 (H := H) (unhide Hh1) (unhide Hh2) (unhide Hh3) (unhide Hh4) hh)
        clear hh
        go_wp2_with fail
        go_ret
        exact ⟨by rw [unhide HT2]; rfl, unhide HB2⟩
    · have HB := hide hb
      have HT2 := hide (dictOk0 (H := H) h1 h2 h3 h4 h5)
      clear hb h1 h2 h3 h4 h5
      go_wp2_with fail
      go_ret
      exact ⟨by rw [unhide HT2]; rfl, unhide HB⟩
end Go.Proofs.YtglcaejddckleaaGreatDoor
