/-
  DiF, DiG, DiH.
-/
import Derived.Test.YtfceeijdmilieaaGreatDiEP
import Derived.RangeFuncNested
import Derived.RangeFuncBound
import Derived.RangeFuncCalls
import Derived.RangeFuncLeaves
import Derived.RangeFuncFrom
import Derived.Shelf.Abstract
import Derived.Shelf.RegionOpen
import Derived.OwnWalkIn
import Derived.TacticsInMore
import Derived.LoopNIn
import Derived.LoopIn
namespace Go.Proofs.YtfceeijdmilieaaGreat
open Go.RowKit
set_option linter.unusedVariables false
attribute [local go_sem] run_store_float run_equalIn_float

theorem idx0 (a b : Option Addr) (n m c c' : Nat) (w : World) : (Instr.index 216 (.agg #[.slice a n c, .slice b m c']) (.int .i64 0)).run Tryz.prog w = .ok (.slice a n c) w := by kernel_rfl
theorem idx1 (a b : Option Addr) (n m c c' : Nat) (w : World) : (Instr.index 216 (.agg #[.slice a n c, .slice b m c']) (.int .i64 1)).run Tryz.prog w = .ok (.slice b m c') w := by kernel_rfl

set_option maxRecDepth 100000 in
set_option maxHeartbeats 2000000 in
theorem timesNamed_any (la : Option Addr) (lc : Nat) (ia : Option Addr) (ic : Nat) (xa : Option Addr) (xc : Nat) (d : Dc) (w : World) (hD : DAt w la ia xa d) (hS : Small d) (h3 : D3 d) (h4 : D4 d) :
    Calls Tryz.prog 130 #[Dv la lc ia ic xa xc d] w fun e w' => (∃ s, e = .returned (.slice (some ⟨s, 0, none⟩) d.n d.n) ∧ Counts w' s d.n (fun j => cnt d.I j d.m + cnt d.X j d.x)) ∧ Below w.heap.size w w' := by
  have hn := hS.n
  have hm := hS.m
  have hx := hS.x
  have hmk := make_ints d.n hn
  have hi0 := idx0 ia xa d.m d.x ic xc
  have hi1 := idx1 ia xa d.m d.x ic xc
  have HD := hide hD
  have H3 := hide h3
  have H4 := hide h4
  clear hD hS h3 h4
  go_enter Tryz.func130, Tryz.ntmps130
  go_wp2
  obtain ⟨u, hu⟩ : ∃ u, u = ((w.alloc (.cells #[.slice la d.n lc, .slice ia d.m ic, .slice xa d.x xc, .int .i64 d.used, .int .i64 d.live, .int .i64 d.turns] 190)).alloc (.cells (madeCells #[.int .i64 0] d.n) 3)) := ⟨_, rfl⟩
  rw [← hu]
  have HBu : Hid (Below w.heap.size w u) := hide (by rw [hu]; exact ((Below.refl _ _).alloc (Nat.le_refl _) _).alloc (by simp) _)
  have HC0 : Hid (Counts u (w.heap.size + 1) d.n (fun j => 0)) := hide (by
    rw [hu]
    have := made_zeros (w.alloc (.cells #[.slice la d.n lc, .slice ia d.m ic, .slice xa d.x xc, .int .i64 d.used, .int .i64 d.live, .int .i64 d.turns] 190)) d.n
    exact ⟨_, by simpa [Value.cells] using this, fun j hj => rfl⟩)
  clear hu hmk
  go_loopw [20] (fun i wr => (i = .int .i64 0 ∧ Counts wr (w.heap.size + 1) d.n (fun j => 0) ∧ Below w.heap.size w wr) ∨ (i = .int .i64 1 ∧ Counts wr (w.heap.size + 1) d.n (fun j => cnt d.I j d.m) ∧ Below w.heap.size w wr) ∨ (i = .int .i64 2 ∧ Counts wr (w.heap.size + 1) d.n (fun j => cnt d.I j d.m + cnt d.X j d.x) ∧ Below w.heap.size w wr)) (fun i _ => 2 - (intOf i).toNat)
  case atStart => exact .inl ⟨rfl, unhide HC0, unhide HBu⟩
  case round =>
    clear HC0 HBu
    rcases hrel with ⟨rfl, hct, hb⟩ | ⟨rfl, hct, hb⟩ | ⟨rfl, hct, hb⟩
    · have HC := hide hct
      have HB := hide hb
      clear hct hb
      go_wp2
      go_loopw [25] (fun i wr => ∃ k : Nat, k ≤ d.m ∧ i = .int .i64 k ∧ Counts wr (w.heap.size + 1) d.n (fun j => cnt d.I j k) ∧ Below w.heap.size w wr) (fun i _ => d.m - (intOf i).toNat)
      case atStart => exact ⟨0, by omega, rfl, unhide HC, unhide HB⟩
      case round =>
        clear HC HB
        obtain ⟨k, hk, rfl, hct, hb⟩ := hrel
        by_cases hkn : k < d.m
        · obtain ⟨b, off, rfl, hbl, hcs⟩ := (unhide HD).ints.resolve_left (by omega)
          have e0 := (hb.cell (p := ⟨b, off + k, none⟩) hbl).trans (hcs k hkn)
          have hsl := hct.lt
          have HB := hide hb
          rcases (unhide H3).1 k hkn with hz | hz
          · have HC : Hid (Counts wr (w.heap.size + 1) d.n (fun j => cnt d.I j (k + 1))) := hide (hct.congr (fun j hj => by show (if _ then _ else _) = _; rw [if_neg (by omega)]))
            rw [hz] at e0
            clear hcs hb hct hz
            go_wp2
            go_roundw
            case rel => exact ⟨k + 1, by omega, by go_num, unhide HC, unhide HB⟩
            case measure => simp [intOf]; omega
          · obtain ⟨q, hq⟩ : ∃ q : Nat, d.I k = (q : Int) + 1 := ⟨(d.I k - 1).toNat, by omega⟩
            have hqn : q < d.n := by omega
            have r0 := hct.cell hqn
            have r1 := hct.frozen q
            have hcl := cnt_le d.I q k
            have HC : Hid (Counts (wr.setCell ⟨w.heap.size + 1, q, none⟩ (.int .i64 ((cnt d.I q k : Int) + 1))) (w.heap.size + 1) d.n (fun j => cnt d.I j (k + 1))) := hide (hct.bump.congr (fun j hj => by
              show (if d.I k = (j : Int) + 1 then _ else _) = (if j = q then _ else _)
              by_cases e : j = q
              · subst e; rw [if_pos hq, if_pos rfl]
              · rw [if_neg (by omega), if_neg e]))
            rw [hq] at e0
            clear hcs hb hct hz hq
            go_wp2
            go_roundw
            case rel => exact ⟨k + 1, by omega, by go_num, unhide HC, (unhide HB).setCell (by show w.heap.size ≤ w.heap.size + 1; omega) _⟩
            case measure => simp [intOf]; omega
        have hkn' : k = d.m := by omega
        subst hkn'
        have HC := hide hct
        have HB := hide hb
        clear hct hb hk hkn
        go_wp2
        go_roundw
        case rel => exact .inr (.inl ⟨rfl, unhide HC, unhide HB⟩)
        case measure => simp [intOf]
    · have HC := hide hct
      have HB := hide hb
      clear hct hb
      go_wp2
      go_loopw [25] (fun i wr => ∃ k : Nat, k ≤ d.x ∧ i = .int .i64 k ∧ Counts wr (w.heap.size + 1) d.n (fun j => cnt d.I j d.m + cnt d.X j k) ∧ Below w.heap.size w wr) (fun i _ => d.x - (intOf i).toNat)
      case atStart => exact ⟨0, by omega, rfl, unhide HC, unhide HB⟩
      case round =>
        clear HC HB
        obtain ⟨k, hk, rfl, hct, hb⟩ := hrel
        by_cases hkn : k < d.x
        · obtain ⟨b, off, rfl, hbl, hcs⟩ := (unhide HD).index.resolve_left (by omega)
          have e0 := (hb.cell (p := ⟨b, off + k, none⟩) hbl).trans (hcs k hkn)
          have hsl := hct.lt
          have HB := hide hb
          by_cases hz : 0 < d.X k
          case neg =>
            have HC : Hid (Counts wr (w.heap.size + 1) d.n (fun j => cnt d.I j d.m + cnt d.X j (k + 1))) := hide (hct.congr (fun j hj => by show _ + (if _ then _ else _) = _; rw [if_neg (by omega)]))
            have hz' : decide (0 < d.X k) = false := by simp; omega
            clear hcs hb hct
            go_wp2
            go_roundw
            case rel => exact ⟨k + 1, by omega, by go_num, unhide HC, unhide HB⟩
            case measure => simp [intOf]; omega
          · obtain ⟨q, hq⟩ : ∃ q : Nat, d.X k = (q : Int) + 1 := ⟨(d.X k - 1).toNat, by omega⟩
            have hqn : q < d.n := by rcases (unhide H4).2.1 k hkn with hh | hh | hh <;> omega
            have r0 := hct.cell hqn
            have r1 := hct.frozen q
            have hcl := cnt_le d.I q d.m
            have hcl2 := cnt_le d.X q k
            have HC : Hid (Counts (wr.setCell ⟨w.heap.size + 1, q, none⟩ (.int .i64 (((cnt d.I q d.m + cnt d.X q k : Nat) : Int) + 1))) (w.heap.size + 1) d.n (fun j => cnt d.I j d.m + cnt d.X j (k + 1))) := hide (hct.bump.congr (fun j hj => by
              show _ + (if d.X k = (j : Int) + 1 then _ else _) = (if j = q then _ else _)
              by_cases e : j = q
              · subst e; rw [if_pos hq, if_pos rfl]; omega
              · rw [if_neg (by omega), if_neg e]))
            generalize hcc : cnt d.I q d.m + cnt d.X q k = cc at r0 HC
            have hcb : cc ≤ 8388608 := by omega
            rw [hq] at e0
            clear hcs hb hct hz hq hcc hcl hcl2
            go_wp2
            go_roundw
            case rel => exact ⟨k + 1, by omega, by go_num, unhide HC, (unhide HB).setCell (by show w.heap.size ≤ w.heap.size + 1; omega) _⟩
            case measure => simp [intOf]; omega
        have hkn' : k = d.x := by omega
        subst hkn'
        have HC := hide hct
        have HB := hide hb
        clear hct hb hk hkn
        go_wp2
        go_roundw
        case rel => exact .inr (.inr ⟨rfl, unhide HC, unhide HB⟩)
        case measure => simp [intOf]
    · have HC := hide hct
      have HB := hide hb
      clear hct hb
      go_wp2
      go_ret
      exact ⟨⟨_, rfl, unhide HC⟩, unhide HB⟩

set_option maxHeartbeats 1000000 in
theorem nextInt_any (bk R0 R1 R2 : Nat) (E S : Nat → Nat) (d : Dc) (w : World) (hB : Book w bk R0 R1 R2 E S d) (hS : Small d) :
    Calls Tryz.prog 131 #[.pointer (some ⟨bk, 0, none⟩)] w fun e w' => e = .returned (V 2 ((d.m : Int) + 1) 0 ⟨#[]⟩ 0) ∧ Below w.heap.size w w' := by
  have hm := hS.m
  obtain ⟨k1, c1⟩ := hB.c1
  have hlt := hB.lt
  clear hB hS
  go_enter Tryz.func131, Tryz.ntmps131
  go_wp2_with (go_at_call 126; refine (intValue_any ((d.m : Int) + 1) _).mono ?_; rintro e w1 ⟨rfl, hb1⟩; obtain ⟨hc1, hf1⟩ := bcell hb1; have hz1 := hb1.size; simp at hz1)
  refine bodyPost_ret (v := V 2 ((d.m : Int) + 1) 0 ⟨#[]⟩ 0) (by simp [results, Tryz.results131, go_sem, hc1]) rfl ⟨rfl, ?_⟩
  have hb2 : Below w.heap.size w w1 := ((Below.refl _ _).alloc (Nat.le_refl _) _).trans (hb1.mono (by simp))
  exact (((((hb2.setCell (p := ⟨w.heap.size, 0, none⟩) (Nat.le_refl _) _).setCell (p := ⟨w.heap.size, 1, none⟩) (Nat.le_refl _) _).setCell (p := ⟨w.heap.size, 2, none⟩) (Nat.le_refl _) _).setCell (p := ⟨w.heap.size, 3, none⟩) (Nat.le_refl _) _).setCell (p := ⟨w.heap.size, 4, none⟩) (Nat.le_refl _) _)
end Go.Proofs.YtfceeijdmilieaaGreat
namespace Go.Proofs.YtfceeijdmilieaaGreat
open Go.RowKit Go.Shelf
set_option linter.unusedVariables false

section
variable {P : Program} {ops : Array Oper} {C : World → Prop} {md : Region.Mode}

theorem wpIn_of_quiet {l n : Nat} {o : Oper} {a : Act} {K : Act → Prop} {K' : Act → World → Prop} {Q' : Exit → Act → World → Prop} {w : World} (hd : ∀ c, o.op ≠ .defer c) (hw : C w) (h : ∀ a w', C w' → K a → K' a w') (hh : o.quiet P a C K) : o.wpIn (Fence.wide.inRound l) n P a w K' Q' := by
  obtain ⟨v, h1, h2⟩ := hh
  have h3 := h1 w hw
  unfold Oper.quietAt at h3
  refine ⟨fun _ _ => trivial, ?_⟩
  show o.uponIn (Fence.wide.inRound l) n P a K' Q' ((o.semAt (some l) a.eval).run P w)
  rw [Oper.semAt_some l _ _ hd]
  generalize (execOp a.eval o).run P w = r at *
  cases r with
  | ok x w' =>
    cases x <;> simp only [Oper.quietUpon] at h3 <;> simp only [Oper.uponIn]
    case value u =>
      obtain ⟨e1, e2⟩ := h3
      rw [e1, e2]
      exact h _ _ hw h2
    case skip =>
      obtain ⟨e1, e2⟩ := h3
      rw [e1, ← e2]
      exact h _ _ hw h2
    case enter f args =>
      obtain ⟨e1, hc⟩ := h3
      rw [e1]
      refine ⟨fun hh => (by cases hh), CallsIn.inRound l (callsIn_wide.2 (hc.mono fun e w'' ⟨he, hw''⟩ => ?_))⟩
      subst he
      exact h _ _ hw'' h2
  | halt x w' => simp only [Oper.quietUpon] at h3

def noDefer (ops : Array Oper) : Bool := ops.all fun o => match o.op with | .defer _ => false | _ => true
theorem noDefer_spec (h : noDefer ops = true) {i : Nat} {o : Oper} (ho : ops[i]? = some o) : ∀ c, o.op ≠ .defer c := by
  intro c e
  unfold noDefer at h
  rw [Array.all_eq_true] at h
  obtain ⟨hi, he⟩ := Array.getElem?_eq_some_iff.1 ho
  have := h i hi
  rw [he, e] at this
  simp at this

theorem wpOpIn_of_qOp {l n i : Nat} {a : Act} {K : Act → Prop} {K' : Act → World → Prop} {Q' : Exit → Act → World → Prop} {w : World} (hd : noDefer ops = true) (hC : C w) (h : ∀ a w', C w' → K a → K' a w') (hh : qOp P ops C i K a) : wpOpIn (Fence.wide.inRound l) n P ops Q' i K' a w := by
  unfold qOp at hh
  unfold wpOpIn
  split
  · rename_i ho; simp only [ho] at hh; exact h _ _ hC hh
  · rename_i o ho
    simp only [ho] at hh
    split
    · rename_i hw; simp only [hw, if_true] at hh; exact wpIn_of_quiet (noDefer_spec hd ho) hC h hh
    · rename_i hw; simp only [hw] at hh; exact ⟨fun _ _ => trivial, h _ _ hC hh⟩

theorem wpAnyIn_of_quiet {l n : Nat} {Q : Act → Prop} {Q' : Exit → Act → World → Prop} (hd : noDefer ops = true) (hQ : ∀ a w, C w → Q a → Q' .normal a w) : ∀ (fuel : Nat) (listed : Array Bool) (a : Act) (w : World), C w →
    wpAnyQ P md ops C Q fuel listed a → wpAnyIn (Fence.wide.inRound l) n P md ops Q' fuel listed a w
  | 0, _, _, _, hw, h => ⟨h.1, hQ _ _ hw h.2⟩
  | fuel + 1, _, _, _, hw, h => ⟨fun h0 => hQ _ _ hw (h.1 h0), fun i hi => wpOpIn_of_qOp hd hw (fun a' w' hw' => wpAnyIn_of_quiet hd hQ fuel _ a' w' hw') (h.2 i hi)⟩

theorem wpIn_region_quiet {l n id : Nat} {Q : Exit → Act → World → Prop} {a : Act} {w : World} (hm : P.follows .mixedOrders = true) (hB : Region.lexB .any ops = true) (hd : noDefer ops = true) (hC : C { w with drawn := w.drawn + 1 })
    (h : wpQuiet P ops C (fun a' => ∀ w', C w' → Q .normal a' w') ops.toList a) : (Code.region id ops true).wpIn (Fence.wide.inRound l) n P Q a w := by
  simp only [Region.lexB, Bool.and_eq_true] at hB
  refine wpIn_region_any hm (wpAnyIn_of_quiet hd (Q := fun a' => ∀ w', C w' → Q .normal a' w') (fun _ w' hw' h => h w' hw') _ _ _ _ hC ?_)
  have := wpAnyQ_lex (C := C) (md := .any) hB.1 ops.toList 0 (Array.replicate ops.size false) a (by simp) (by simpa using hB.2) h
  simpa using this
end
end Go.Proofs.YtfceeijdmilieaaGreat
namespace Go.Proofs.YtfceeijdmilieaaGreat
open Go.RowKit Go.Shelf
set_option linter.unusedVariables false
attribute [local go_sem] run_store_float run_equalIn_float Oper.semAt_some

/-- The program's hash of a value. -/
structure HsI (T : World → Prop) (v : Vl) (h : Nat) : Prop where
  lt : h < 18446744073709551616
  call : ∀ w : World, T w → Calls Tryz.prog 137 #[V v.kind v.num v.flt v.str v.ref] w fun e w' => e = .returned (.int .u64 (h : Int)) ∧ Below w.heap.size w w'
/-- What the hashes stand on lasts. -/
def Lasts (T : World → Prop) : Prop := ∀ w w', T w → Below w.heap.size w w' → T w'

def seqL (x a0 f : Nat) : List Nat := (List.range f).map (fun j => (a0 + j) % x)
theorem seqL_succ (x a0 f : Nat) : seqL x a0 (f + 1) = seqL x a0 f ++ [(a0 + f) % x] := by
  unfold seqL
  rw [List.range_succ]
  simp
theorem seqL_length (x a0 f : Nat) : (seqL x a0 f).length = f := by simp [seqL]
theorem seqL_prefix {x a0 f g : Nat} (h : f ≤ g) : seqL x a0 f <+: seqL x a0 g := by
  obtain ⟨k, rfl⟩ : ∃ k, g = f + k := ⟨g - f, by omega⟩
  induction k with
  | zero => exact List.prefix_refl _
  | succ k ih =>
    rw [show f + (k + 1) = (f + k) + 1 by omega, seqL_succ]
    exact (ih (by omega)).trans (List.prefix_append _ _)

set_option maxHeartbeats 1000000 in
theorem from_any (p : Option Addr) (v : Vl) (w : World) :
    Calls Tryz.prog 145 #[.pointer p, V v.kind v.num v.flt v.str v.ref] w fun e w' => e = .returned (.func (.func 152) #[] #[.pointer (some ⟨w.heap.size, 0, none⟩), .pointer (some ⟨w.heap.size + 1, 0, none⟩)]) ∧ w' = (w.alloc (.cells #[.pointer p] 219)).alloc (.cells #[.int .i64 v.kind, .int .i64 v.num, .float .f64 v.flt, .string v.str, .int .i64 v.ref] 85) := by
  go_enter Tryz.func145, Tryz.ntmps145
  go_wp2
  go_ret
  exact ⟨rfl, rfl⟩

theorem grown_of_below {w w' : World} (h : Below w.heap.size w w') : w.grownBy w' none := ⟨h.os, h.tape, h.output, h.size, fun k hk _ => h.block k hk⟩

/-- All slots have come; some have. -/
def SqAll (d : Dc) (h : Nat) (xs : List {a : Nat // a < d.x}) : Prop := xs.map (·.1) = seqL d.x (h % d.x) d.x
def SqPre (d : Dc) (h : Nat) (xs : List {a : Nat // a < d.x}) : Prop := xs.map (·.1) <+: seqL d.x (h % d.x) d.x
def SqTo (d : Dc) (h j : Nat) (xs : List {a : Nat // a < d.x}) : Prop := xs.map (·.1) = seqL d.x (h % d.x) j
theorem SqTo.len {d : Dc} {h j : Nat} {xs : List {a : Nat // a < d.x}} (e : SqTo d h j xs) : xs.length = j := by
  have := congrArg List.length e
  rwa [List.length_map, seqL_length] at this
theorem SqTo.snoc {d : Dc} {h j : Nat} {xs : List {a : Nat // a < d.x}} (e : SqTo d h j xs) (hx : (h % d.x + j) % d.x < d.x) : SqTo d h (j + 1) (xs ++ [⟨(h % d.x + j) % d.x, hx⟩]) := by
  unfold SqTo at *
  rw [List.map_append, e, seqL_succ]
  rfl
theorem SqTo.pre {d : Dc} {h j : Nat} {xs : List {a : Nat // a < d.x}} (e : SqTo d h j xs) (hj : j ≤ d.x) : SqPre d h xs := by
  unfold SqTo at e
  unfold SqPre
  rw [e]
  exact seqL_prefix hj

set_option maxRecDepth 100000 in
set_option maxHeartbeats 2000000 in
theorem from_stops (n : Nat) (hn : 1 ≤ n) (T : World → Prop) (hTl : Lasts T) (bk R2 mb kb : Nat) (d : Dc) (v : Vl) (h n0 : Nat) (hh : HsI T v h) (w : World) (hT : T w) (hx : d.x ≤ 4194304)
    (m0 : w.cell? ⟨mb, 0, none⟩ = some (.pointer (some ⟨bk, 2, none⟩))) (c2 : w.cell? ⟨bk, 2, none⟩ = some hashF) (c3 : w.cell? ⟨bk, 3, none⟩ = some (.slice (some ⟨R2, 0, none⟩) d.x d.x))
    (k0 : w.cell? ⟨kb, 0, none⟩ = some (.int .i64 v.kind)) (k1 : w.cell? ⟨kb, 1, none⟩ = some (.int .i64 v.num)) (k2 : w.cell? ⟨kb, 2, none⟩ = some (.float .f64 v.flt)) (k3 : w.cell? ⟨kb, 3, none⟩ = some (.string v.str)) (k4 : w.cell? ⟨kb, 4, none⟩ = some (.int .i64 v.ref)) :
    SeqStopsK Fence.wide n Tryz.prog 152 #[.pointer (some ⟨mb, 0, none⟩), .pointer (some ⟨kb, 0, none⟩)] (fun a : {a : Nat // a < d.x} => #[.int .i64 (a.1 : Int)]) (Below n0)
      (SqAll d h) (SqPre d h) d.x w := fun l J Jx W hW hJ hJx hY h0 => by
  have lm := World.block_lt_of_cell? _ _ m0
  have lb := World.block_lt_of_cell? _ _ c2
  have lk := World.block_lt_of_cell? _ _ k0
  have m0 := (hW.cell (p := ⟨mb, 0, none⟩) lm).trans m0
  have c2 := (hW.cell (p := ⟨bk, 2, none⟩) lb).trans c2
  have c3 := (hW.cell (p := ⟨bk, 3, none⟩) lb).trans c3
  have k0 := (hW.cell (p := ⟨kb, 0, none⟩) lk).trans k0
  have k1 := (hW.cell (p := ⟨kb, 1, none⟩) lk).trans k1
  have k2 := (hW.cell (p := ⟨kb, 2, none⟩) lk).trans k2
  have k3 := (hW.cell (p := ⟨kb, 3, none⟩) lk).trans k3
  have k4 := (hW.cell (p := ⟨kb, 4, none⟩) lk).trans k4
  have lm' : mb < W.heap.size := Nat.lt_of_lt_of_le lm hW.size
  have lb' : bk < W.heap.size := Nat.lt_of_lt_of_le lb hW.size
  have lk' : kb < W.heap.size := Nat.lt_of_lt_of_le lk hW.size
  have HT := hide (hTl _ _ hT hW)
  have HTl := hide hTl
  have HH := hide hh
  have HJ := hide hJ
  have HY := hide hY
  have H0 := hide h0
  clear hJx hJ hY hT hW hTl hh h0
  refine callsIn_of_wp Tryz.func152 rfl trivial ?_ rfl
  simp only [Tryz.ntmps152, List.size_toArray, List.length_cons, List.length_nil, Nat.reduceAdd, Nat.reduceSub, Array.replicate_succ, Array.replicate_zero, List.push_toArray, List.append_toArray, List.nil_append, List.cons_append]
  by_cases hx0 : d.x = 0
  · have hx0' : ((d.x : Int) == 0) = true := by simp [hx0]
    have HX0 := hide hx0
    clear hx0
    gi_wp2
    refine bodyPost_ret (results_none rfl _ _ _) rfl ?_
    exact ⟨⟨_, rfl⟩, .inl ⟨[], by unfold SqAll; rw [unhide HX0]; rfl, unhide H0⟩⟩
  have hx0' : ((d.x : Int) == 0) = false := by simp [hx0]
  have hxp : 0 < d.x := by omega
  gi_wp2
  refine wpIn_wide.2 ?_
  refine wp_region_quiet (C := fun w' => Below W.heap.size W w') (by kernel_rfl) (by kernel_rfl) ((Below.refl _ _).drew) ?_
  show wpQuiet _ _ _ _ [_, _, _, _, _, _, _, _, _] _
  refine wpQuiet_step (fun K hK => ?_)
  go_simp
  apply Exists.intro
  refine And.intro (fun w' hw' => ?_) (hK _ ?_)
  · obtain ⟨hc', hf'⟩ := bcell hw'
    go_simp
    first | rfl | exact ⟨rfl, rfl⟩ | exact ⟨rfl⟩
  clear hK K
  refine wpQuiet_step (fun K hK => ?_)
  go_simp
  refine ⟨_, fun w' hw' => rfl, hK _ ?_⟩
  clear hK K
  refine wpQuiet_step (fun K hK => ?_)
  go_simp
  refine ⟨_, fun w' hw' => rfl, hK _ ?_⟩
  clear hK K
  refine wpQuiet_step (fun K hK => ?_)
  go_simp
  apply Exists.intro
  refine And.intro (fun w' hw' => ?_) (hK _ ?_)
  · obtain ⟨hc', hf'⟩ := bcell hw'
    go_simp
    first | rfl | exact ⟨rfl, rfl⟩ | exact ⟨rfl⟩
  clear hK K
  refine wpQuiet_step (fun K hK => ?_)
  go_simp
  apply Exists.intro
  refine And.intro (fun w' hw' => ?_) (hK _ ?_)
  · obtain ⟨hc', hf'⟩ := bcell hw'
    go_simp
    first | rfl | exact ⟨rfl, rfl⟩ | exact ⟨rfl⟩
  clear hK K
  refine wpQuiet_step (fun K hK => ?_)
  go_simp
  apply Exists.intro
  refine And.intro (fun w' hw' => ?_) (hK _ ?_)
  · refine (((unhide HH).call _ (unhide HTl _ _ (unhide HT) hw'))).mono ?_
    rintro e w'' ⟨rfl, hb⟩
    exact ⟨rfl, hw'.trans (hb.mono hw'.size)⟩
  clear hK K
  obtain ⟨a0, ha0⟩ : ∃ a0, a0 = h % d.x := ⟨_, rfl⟩
  have hr0 : (h : Int).tmod (d.x : Int) = (a0 : Int) := by rw [ha0, Int.tmod_eq_emod_of_nonneg (by omega)]; exact (Int.natCast_emod _ _).symm
  have ha1 : a0 < d.x := by rw [ha0]; exact Nat.mod_lt _ hxp
  have hhl := (unhide HH).lt
  have HA0 := hide ha0
  clear ha0
  refine wpQuiet_step (fun K hK => ?_)
  go_simp
  refine ⟨_, fun w' hw' => rfl, hK _ ?_⟩
  clear hK K
  refine wpQuiet_step (fun K hK => ?_)
  go_simp
  refine ⟨_, fun w' hw' => rfl, hK _ ?_⟩
  clear hK K
  refine wpQuiet_step (fun K hK => ?_)
  go_simp
  refine ⟨_, fun w' hw' => rfl, hK _ ?_⟩
  clear hK K
  refine wpQuiet_nil ?_
  intro w2 hw2
  have HJ2 := hide ((unhide HJ) [] W w2 none (unhide H0) (grown_of_below hw2) (fun r e => by cases e))
  clear hw2 hr0 m0 c2 c3 k0 k1 k2 k3 k4
  gi_wp2
  gi_loopw [24] (fun i wr => ∃ (j : Nat) (pre : List {a : Nat // a < d.x}), j ≤ d.x ∧ i = .int .u64 (j : Int) ∧ SqTo d h j pre ∧ J pre wr) (fun i _ => d.x - (intOf i).toNat)
  case atStart => exact ⟨0, [], by omega, rfl, rfl, unhide HJ2⟩
  case round =>
    clear HJ2
    obtain ⟨j, pre, hj, rfl, hsq, hJp⟩ := hrel
    by_cases hjx : j < d.x
    · obtain ⟨a1, ha⟩ : ∃ a1, a1 = (a0 + j) % d.x := ⟨_, rfl⟩
      have hlt1 : a1 < d.x := by rw [ha]; exact Nat.mod_lt _ hxp
      have hr1 : ((a0 : Int) + (j : Int)).tmod (d.x : Int) = (a1 : Int) := by rw [ha, Int.tmod_eq_emod_of_nonneg (by omega), Int.natCast_emod, Int.natCast_add]
      obtain ⟨fn, tmps, assign, body, hy, hR⟩ := unhide HY pre ⟨a1, hlt1⟩ wr hJp (by rw [hsq.len]; exact hjx)
      have HSN : Hid (SqTo d h (j + 1) (pre ++ [⟨a1, hlt1⟩])) := hide (by
        have := hsq.snoc (by rw [← unhide HA0, ← ha]; exact hlt1)
        simp only [← unhide HA0, ← ha] at this
        exact this)
      have HR := hide hR
      clear hR hsq hJp ha
      dsimp only at hy
      gi_wp2
      refine (unhide HR).mono ?_
      rintro e W3 (⟨rfl, hJ3, hk3⟩ | ⟨rfl, hJx3⟩)
      · clear HR hy
        gi_wp2
        go_roundw
        case rel => exact ⟨j + 1, _, by omega, by go_num, unhide HSN, hJ3⟩
        case measure => simp [intOf]; omega
      · clear HR hy
        gi_wp2
        refine bodyPost_ret (results_none rfl _ _ _) rfl ?_
        exact ⟨⟨_, rfl⟩, .inr ⟨_, (unhide HSN).pre (by omega), hJx3⟩⟩
    · have hjx' : j = d.x := by omega
      subst hjx'
      have HS := hide hsq
      clear hsq
      gi_wp2
      go_end0
      exact ⟨⟨_, rfl⟩, .inl ⟨pre, unhide HS, hJp⟩⟩
end Go.Proofs.YtfceeijdmilieaaGreat
