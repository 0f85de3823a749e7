/-
  Dicts: keys looked for, by the model.
-/
import Derived.Test.YtglcaejddckleaaGreatDoorDcF
import Derived.Laws.Bits64b
namespace Go.Proofs.YtglcaejddckleaaGreatDoor
open Go.RowKit
set_option linter.unusedVariables false
attribute [local go_sem] run_store_float run_equalIn_float

def feq (a b : Nat) : Bool := FloatKind.f64.format.order a b == some .eq
def likeB (a b : Vl) : Bool := a.kind == b.kind && (a.num == b.num && (feq a.flt b.flt && (a.str.toList == b.str.toList && a.ref == b.ref)))
def probe (d : Dc) (v : Vl) : Nat → Nat → Option Nat
  | _, 0 => none
  | at0, f + 1 => if d.X at0 = 0 then none else if 0 < d.X at0 ∧ likeB (d.at (d.X at0)).key v = true then some at0 else probe d v ((at0 + 1) % d.x) f
def slotOf (d : Dc) (v : Vl) (h : Nat) : Option Nat := if d.x = 0 then none else probe d v (h % d.x) d.x
def slotI : Option Nat → Int
  | none => -1
  | some s => s
def slotP (d : Dc) : Option Nat → Int
  | none => -1
  | some s => d.X s - 1
open Classical in
noncomputable def placeI (d : Dc) (v : Vl) (h : Nat) : Int := if smallK d.m v then d.I (v.num - 1).toNat - 1 else slotP d (slotOf d v h)

theorem probe_zero {d : Dc} {v : Vl} {a f : Nat} (h : d.X a = 0) : probe d v a (f + 1) = none := if_pos h
theorem probe_hit {d : Dc} {v : Vl} {a f : Nat} (h : 0 < d.X a) (hl : likeB (d.at (d.X a)).key v = true) : probe d v a (f + 1) = some a := by
  show (if _ then _ else _) = _
  rw [if_neg (by omega), if_pos ⟨h, hl⟩]
theorem probe_next {d : Dc} {v : Vl} {a f : Nat} (h : d.X a ≠ 0) (hl : ¬ (0 < d.X a ∧ likeB (d.at (d.X a)).key v = true)) : probe d v a (f + 1) = probe d v ((a + 1) % d.x) f := by
  show (if _ then _ else _) = _
  rw [if_neg h, if_neg hl]
theorem probe_lt {d : Dc} {v : Vl} (hx : 0 < d.x) : ∀ (f a s : Nat), a < d.x → probe d v a f = some s → s < d.x ∧ 0 < d.X s := by
  intro f
  induction f with
  | zero => intro a s _ h; cases h
  | succ f ih =>
    intro a s ha h
    by_cases h0 : d.X a = 0
    · rw [probe_zero h0] at h; cases h
    · by_cases hl : 0 < d.X a ∧ likeB (d.at (d.X a)).key v = true
      · rw [probe_hit hl.1 hl.2] at h
        cases h
        exact ⟨ha, hl.1⟩
      · rw [probe_next h0 hl] at h
        exact ih _ _ (Nat.mod_lt _ hx) h
theorem slotOf_lt {d : Dc} {v : Vl} {h s : Nat} (e : slotOf d v h = some s) : s < d.x ∧ 0 < d.X s := by
  unfold slotOf at e
  split at e
  · cases e
  · exact probe_lt (by omega) _ _ _ (Nat.mod_lt _ (by omega)) e

/-- The model's hash of a value. -/
structure HsS (v : Vl) (h : Nat) : Prop where
  lt : h < 18446744073709551616
  call : ∀ w : World, Calls Tryz.prog 133 #[V v.kind v.num v.flt v.str v.ref] w fun e w' => e = .returned (.int .u64 (h : Int)) ∧ Below w.heap.size w w'

set_option maxHeartbeats 1000000 in
theorem l1like_any (a b : Vl) (w : World) :
    Calls Tryz.prog 134 #[V a.kind a.num a.flt a.str a.ref, V b.kind b.num b.flt b.str b.ref] w fun e w' => e = .returned (.bool (likeB a b)) ∧ Below w.heap.size w w' := by
  go_enter Tryz.func134, Tryz.ntmps134
  go_wp2
  all_goals (go_ret; refine ⟨by simp_all [likeB, feq], ((Below.refl _ _).alloc (Nat.le_refl _) _).alloc (by simp) _⟩)

theorem and_mask {x h : Nat} (hp : Pow2 x) (hx : x ≤ 4000) (hh : h < 18446744073709551616) : bits BinOp.and IntKind.u64 (h : Int) ((x : Int) - 1) = ((h % x : Nat) : Int) := by
  obtain ⟨k, rfl⟩ := hp
  have h1 : 0 < 2 ^ k := Nat.two_pow_pos k
  have e : (((2 ^ k : Nat) : Int) - 1) = ((2 ^ k - 1 : Nat) : Int) := by omega
  rw [e, bits_and_u64_nat _ _ hh (by omega), Nat.and_two_pow_sub_one_eq_mod]

set_option maxRecDepth 100000 in
set_option maxHeartbeats 2000000 in
theorem l1slot_any (c o : Nat) (la : Option Addr) (lc : Nat) (ia : Option Addr) (ic : Nat) (xa : Option Addr) (xc : Nat) (d : Dc) (v : Vl) (h : Nat) (w : World) (hD : DPtr w c o la lc ia ic xa xc d) (hS : Small d) (h4 : D4 d) (hh : HsS v h) :
    Calls Tryz.prog 114 #[Pc c o, V v.kind v.num v.flt v.str v.ref] w fun e w' => e = .returned (.int .i64 (slotI (slotOf d v h))) ∧ Below w.heap.size w w' := by
  have hn := hS.n
  have hx := hS.x
  have c2 := hD.c2
  have hlt := hD.lt
  have HD := hide hD
  have HH := hide hh
  have H4 := hide h4
  clear hD hS hh h4
  by_cases h0 : d.x = 0
  · have HR : Hid (slotOf d v h = none) := hide (if_pos h0)
    have h0' : ((d.x : Int) == 0) = true := by simp [h0]
    clear h0
    go_enter Tryz.func114, Tryz.ntmps114
    go_wp2
    go_ret
    exact ⟨by rw [unhide HR]; rfl, (Below.refl _ _).alloc (Nat.le_refl _) _⟩
  have hsx : 8 ≤ d.x ∧ d.x ≤ 4000 ∧ Pow2 d.x := (unhide H4).1.resolve_left h0
  have hand := and_mask (h := h) hsx.2.2 hsx.2.1 (unhide HH).lt
  have hml : h % d.x < d.x := Nat.mod_lt _ (by omega)
  have HR : Hid (slotOf d v h = probe d v (h % d.x) d.x) := hide (if_neg h0)
  have h0' : ((d.x : Int) == 0) = false := by simp; omega
  have hx1 := hsx.1
  have hx2 := hsx.2.1
  obtain ⟨a0, ha0⟩ : ∃ a0, a0 = h % d.x := ⟨_, rfl⟩
  rw [← ha0] at hand hml HR
  have HSX := hide hsx
  clear h0 hsx ha0
  go_enter Tryz.func114, Tryz.ntmps114
  go_wp2_with fail
  refine ((unhide HH).call _).mono ?_
  rintro e w1 ⟨rfl, hb1⟩
  obtain ⟨hc1, hf1⟩ := bcell hb1
  have q0 : w1.cell? ⟨w.heap.size, 0, none⟩ = some (.int .i64 v.kind) := by rw [hc1 _ _ (by simp)]; simp [go_sem]
  have q1 : w1.cell? ⟨w.heap.size, 1, none⟩ = some (.int .i64 v.num) := by rw [hc1 _ _ (by simp)]; simp [go_sem]
  have q2 : w1.cell? ⟨w.heap.size, 2, none⟩ = some (.float .f64 v.flt) := by rw [hc1 _ _ (by simp)]; simp [go_sem]
  have q3 : w1.cell? ⟨w.heap.size, 3, none⟩ = some (.string v.str) := by rw [hc1 _ _ (by simp)]; simp [go_sem]
  have q4 : w1.cell? ⟨w.heap.size, 4, none⟩ = some (.int .i64 v.ref) := by rw [hc1 _ _ (by simp)]; simp [go_sem]
  have hz1 : w.heap.size < w1.heap.size := by have := hb1.size; simp at this; omega
  have HB1 := hide (((Below.refl w.heap.size w).alloc (Nat.le_refl _) _).trans (hb1.mono (by simp)))
  clear hb1 hc1 hf1 c2
  go_wp2_with fail
  go_loopw [6, 7] (fun p i wr => ∃ (a j : Nat), p = .int .i64 a ∧ i = .int .i64 j ∧ a < d.x ∧ j ≤ d.x ∧ probe d v a0 d.x = probe d v a (d.x - j) ∧ Below w1.heap.size w1 wr) (fun _ i _ => d.x - (intOf i).toNat)
  case atStart => exact ⟨a0, 0, by simp, rfl, hml, by omega, rfl, Below.refl _ _⟩
  case round =>
    obtain ⟨a, j, rfl, rfl, ha, hj, hpr, hb⟩ := hrel
    have hD := (unhide HD).below ((unhide HB1).trans (hb.mono (unhide HB1).size))
    have c0 := hD.c0
    have c2 := hD.c2
    have hcl := hD.lt
    have HPR := hide ((unhide HR).trans hpr)
    clear hD hpr hand
    by_cases hjn : j < d.x
    case neg =>
      have HT : Hid (slotOf d v h = none) := hide ((unhide HPR).trans (by rw [show d.x - j = 0 by omega]; rfl))
      have HB := hide hb
      clear hb
      go_wp2
      go_ret
      exact ⟨by rw [unhide HT]; rfl, (unhide HB1).trans ((unhide HB).mono (unhide HB1).size)⟩
    obtain ⟨f, hf⟩ : ∃ f, d.x - j = f + 1 := ⟨d.x - j - 1, by omega⟩
    obtain ⟨b, off, rfl, hbl, hcs⟩ := (unhide HD).rows.index.resolve_left (by omega)
    have e0 := (hb.cell (p := ⟨b, off + a, none⟩) (Nat.lt_of_lt_of_le hbl (unhide HB1).size)).trans (((unhide HB1).cell (p := ⟨b, off + a, none⟩) hbl).trans (hcs a ha))
    have p0 := (hb.cell (p := ⟨w.heap.size, 0, none⟩) hz1).trans q0
    have p1 := (hb.cell (p := ⟨w.heap.size, 1, none⟩) hz1).trans q1
    have p2 := (hb.cell (p := ⟨w.heap.size, 2, none⟩) hz1).trans q2
    have p3 := (hb.cell (p := ⟨w.heap.size, 3, none⟩) hz1).trans q3
    have p4 := (hb.cell (p := ⟨w.heap.size, 4, none⟩) hz1).trans q4
    have hz2 : w.heap.size < wr.heap.size := Nat.lt_of_lt_of_le hz1 hb.size
    have hbw : b < wr.heap.size := Nat.lt_of_lt_of_le (Nat.lt_of_lt_of_le hbl (unhide HB1).size) hb.size
    have HB := hide hb
    rw [hf] at HPR
    have HF := hide hf
    clear hcs hb hf
    by_cases h0 : d.X a = 0
    · have HT : Hid (slotOf d v h = none) := hide ((unhide HPR).trans (probe_zero h0))
      rw [h0] at e0
      clear h0
      go_wp2
      go_ret
      exact ⟨by rw [unhide HT]; rfl, (unhide HB1).trans ((unhide HB).mono (unhide HB1).size)⟩
    have h0' : (d.X a == 0) = false := by simp [h0]
    rcases (unhide H4).2.1 a ha with hs | hs | hs
    · exact absurd hs h0
    · have HT : Hid (slotOf d v h = probe d v ((a + 1) % d.x) f) := hide ((unhide HPR).trans (probe_next h0 (fun h => by omega)))
      rw [hs] at e0
      clear h0 h0' hs p0 p1 p2 p3 p4
      go_wp2_with fail
      refine wp_region_quiet (C := fun w' => Below wr.heap.size wr w') (by kernel_rfl) (by kernel_rfl) ((Below.refl _ _).drew) ?_
      show wpQuiet _ _ _ _ [_, _, _, _, _, _, _, _, _, _, _, _, _, _, _] _
      refine wpQuiet_step (fun K hK => ?_)
      go_simp
      refine ⟨_, fun w' hw' => rfl, hK _ ?_⟩
      clear hK K
      refine wpQuiet_step (fun K hK => ?_)
      go_simp
      refine ⟨_, fun w' hw' => rfl, hK _ ?_⟩
      clear hK K
      refine wpQuiet_step (fun K hK => ?_)
      go_simp
      refine ⟨_, fun w' hw' => rfl, hK _ ?_⟩
      clear hK K
      go_big_quiet_step (fail)
      go_big_quiet_step (fail)
      go_big_quiet_step (fail)
      go_big_quiet_step (fail)
      go_big_quiet_step (fail)
      go_big_quiet_step (fail)
      go_big_quiet_step (fail)
      go_big_quiet_step (fail)
      go_big_quiet_step (fail)
      go_big_quiet_step (fail)
      go_big_quiet_step (fail)
      refine wpQuiet_step (fun K hK => ?_)
      go_simp
      refine ⟨_, fun w' hw' => rfl, hK _ ?_⟩
      clear hK K
      refine wpQuiet_nil ?_
      intro w2 hw2
      have HB2 := hide ((unhide HB).trans (hw2.mono (unhide HB).size))
      clear hw2 e0 c0 c2
      by_cases hw : a + 1 = d.x
      · have hw' : ((a : Int) + 1 == d.x) = true := by simp; omega
        have HM : Hid ((a + 1) % d.x = 0) := hide (by rw [hw]; exact Nat.mod_self _)
        clear hw
        go_wp2
        go_roundw
        case rel => exact ⟨0, j + 1, rfl, by go_num, by omega, by omega, by rw [← unhide HR, unhide HT, unhide HM, show d.x - (j + 1) = f by have := unhide HF; omega], unhide HB2⟩
        case measure => simp [intOf]; omega
      · have hw' : ((a : Int) + 1 == d.x) = false := by simp; omega
        have HM : Hid ((a + 1) % d.x = a + 1) := hide (Nat.mod_eq_of_lt (by omega))
        have hw2 : a + 1 < d.x := by omega
        clear hw
        go_wp2
        go_roundw
        case rel => exact ⟨a + 1, j + 1, by go_num, by go_num, by omega, by omega, by rw [← unhide HR, unhide HT, unhide HM, show d.x - (j + 1) = f by have := unhide HF; omega], unhide HB2⟩
        case measure => simp [intOf]; omega
    obtain ⟨q, hq⟩ : ∃ q : Nat, d.X a = (q : Int) + 1 := ⟨(d.X a - 1).toNat, by omega⟩
    have hqn : q < d.n := by omega
    obtain ⟨lb, lo, rfl, hll, hls⟩ := (unhide HD).rows.log.resolve_left (by omega)
    obtain ⟨e1, e2, e3, e4, e5, _, _, _, _, _, _⟩ := (hls q hqn).keep (fun q => ((unhide HB).cell (p := ⟨lb, q, none⟩) (Nat.lt_of_lt_of_le hll (unhide HB1).size)).trans ((unhide HB1).cell (p := ⟨lb, q, none⟩) hll))
    have hlw : lb < wr.heap.size := Nat.lt_of_lt_of_le (Nat.lt_of_lt_of_le hll (unhide HB1).size) (unhide HB).size
    have HA : Hid (d.at (d.X a) = d.L q) := hide (by unfold Dc.at; rw [hq]; congr 1; omega)
    rw [hq] at e0 h0'
    have hpos : decide ((0 : Int) < (q : Int) + 1) = true := decide_eq_true (by omega)
    have hwq : IntKind.i64.wrap (q : Int) = q := by rw [IntKind.wrap_i64]; omega
    have HQ := hide hq
    have H0 := hide h0
    clear hls hs hq h0
    cases hlk : likeB (d.L q).key v
    · have HT : Hid (slotOf d v h = probe d v ((a + 1) % d.x) f) := hide ((unhide HPR).trans (probe_next (unhide H0) (fun h => by rw [unhide HA, hlk] at h; exact absurd h.2 (by decide))))
      go_wp2_with fail
      refine wp_region_quiet (C := fun w' => Below wr.heap.size wr w') (by kernel_rfl) (by kernel_rfl) ((Below.refl _ _).drew) ?_
      show wpQuiet _ _ _ _ [_, _, _, _, _, _, _, _, _, _, _, _, _, _, _] _
      refine wpQuiet_step (fun K hK => ?_)
      go_simp
      refine ⟨_, fun w' hw' => rfl, hK _ ?_⟩
      clear hK K
      refine wpQuiet_step (fun K hK => ?_)
      go_simp
      refine ⟨_, fun w' hw' => rfl, hK _ ?_⟩
      clear hK K
      refine wpQuiet_step (fun K hK => ?_)
      go_simp
      refine ⟨_, fun w' hw' => rfl, hK _ ?_⟩
      clear hK K
      refine wpQuiet_step (fun K hK => ?_)
      go_simp
      refine ⟨_, fun w' hw' => rfl, hK _ ?_⟩
      clear hK K
      refine wpQuiet_step (fun K hK => ?_)
      go_simp
      refine ⟨_, fun w' hw' => rfl, hK _ ?_⟩
      clear hK K
      refine wpQuiet_step (fun K hK => ?_)
      go_simp
      refine ⟨_, fun w' hw' => rfl, hK _ ?_⟩
      clear hK K
      refine wpQuiet_step (fun K hK => ?_)
      go_simp
      apply Exists.intro
      refine And.intro (fun w' hw' => ?_) (hK _ ?_)
      · obtain ⟨hc', hf'⟩ := bcell hw'
        go_simp
        first | rfl | exact ⟨rfl, rfl⟩ | exact ⟨rfl⟩
      clear hK K
      refine wpQuiet_step (fun K hK => ?_)
      go_simp
      refine ⟨_, fun w' hw' => rfl, hK _ ?_⟩
      clear hK K
      refine wpQuiet_step (fun K hK => ?_)
      go_simp
      refine ⟨_, fun w' hw' => rfl, hK _ ?_⟩
      clear hK K
      refine wpQuiet_step (fun K hK => ?_)
      go_simp
      refine ⟨_, fun w' hw' => rfl, hK _ ?_⟩
      clear hK K
      refine wpQuiet_step (fun K hK => ?_)
      go_simp
      refine ⟨_, fun w' hw' => rfl, hK _ ?_⟩
      clear hK K
      refine wpQuiet_step (fun K hK => ?_)
      go_simp
      apply Exists.intro
      refine And.intro (fun w' hw' => ?_) (hK _ ?_)
      · obtain ⟨hc', hf'⟩ := bcell hw'
        go_simp
        first | rfl | exact ⟨rfl, rfl⟩ | exact ⟨rfl⟩
      clear hK K
      refine wpQuiet_step (fun K hK => ?_)
      go_simp
      apply Exists.intro
      refine And.intro (fun w' hw' => ?_) (hK _ ?_)
      · obtain ⟨hc', hf'⟩ := bcell hw'
        go_simp
        first | rfl | exact ⟨rfl, rfl⟩ | exact ⟨rfl⟩
      clear hK K
      refine wpQuiet_step (fun K hK => ?_)
      go_simp
      apply Exists.intro
      refine And.intro (fun w' hw' => ?_) (hK _ ?_)
      · refine ((hlk ▸ l1like_any (d.L q).key v _)).mono ?_
        rintro e w'' ⟨rfl, hb⟩
        exact ⟨rfl, hw'.trans (hb.mono hw'.size)⟩
      clear hK K
      refine wpQuiet_step (fun K hK => ?_)
      go_simp
      refine ⟨_, fun w' hw' => rfl, hK _ ?_⟩
      clear hK K
      refine wpQuiet_nil ?_
      intro w2 hw2
      have HB2 := hide ((unhide HB).trans (hw2.mono (unhide HB).size))
      clear hw2 e0 c0 c2
      by_cases hw : a + 1 = d.x
      · have hw' : ((a : Int) + 1 == d.x) = true := by simp; omega
        have HM : Hid ((a + 1) % d.x = 0) := hide (by rw [hw]; exact Nat.mod_self _)
        clear hw
        go_wp2
        go_roundw
        case rel => exact ⟨0, j + 1, rfl, by go_num, by omega, by omega, by rw [← unhide HR, unhide HT, unhide HM, show d.x - (j + 1) = f by have := unhide HF; omega], unhide HB2⟩
        case measure => simp [intOf]; omega
      · have hw' : ((a : Int) + 1 == d.x) = false := by simp; omega
        have HM : Hid ((a + 1) % d.x = a + 1) := hide (Nat.mod_eq_of_lt (by omega))
        have hw2 : a + 1 < d.x := by omega
        clear hw
        go_wp2
        go_roundw
        case rel => exact ⟨a + 1, j + 1, by go_num, by go_num, by omega, by omega, by rw [← unhide HR, unhide HT, unhide HM, show d.x - (j + 1) = f by have := unhide HF; omega], unhide HB2⟩
        case measure => simp [intOf]; omega
    · have HT : Hid (slotOf d v h = some a) := hide ((unhide HPR).trans (probe_hit (by rw [unhide HQ]; omega) (by rw [unhide HA]; exact hlk)))
      go_wp2_with fail
      refine wp_region_quiet (C := fun w' => Below wr.heap.size wr w') (by kernel_rfl) (by kernel_rfl) ((Below.refl _ _).drew) ?_
      show wpQuiet _ _ _ _ [_, _, _, _, _, _, _, _, _, _, _, _, _, _, _] _
      refine wpQuiet_step (fun K hK => ?_)
      go_simp
      refine ⟨_, fun w' hw' => rfl, hK _ ?_⟩
      clear hK K
      refine wpQuiet_step (fun K hK => ?_)
      go_simp
      refine ⟨_, fun w' hw' => rfl, hK _ ?_⟩
      clear hK K
      refine wpQuiet_step (fun K hK => ?_)
      go_simp
      refine ⟨_, fun w' hw' => rfl, hK _ ?_⟩
      clear hK K
      refine wpQuiet_step (fun K hK => ?_)
      go_simp
      refine ⟨_, fun w' hw' => rfl, hK _ ?_⟩
      clear hK K
      refine wpQuiet_step (fun K hK => ?_)
      go_simp
      refine ⟨_, fun w' hw' => rfl, hK _ ?_⟩
      clear hK K
      refine wpQuiet_step (fun K hK => ?_)
      go_simp
      refine ⟨_, fun w' hw' => rfl, hK _ ?_⟩
      clear hK K
      refine wpQuiet_step (fun K hK => ?_)
      go_simp
      apply Exists.intro
      refine And.intro (fun w' hw' => ?_) (hK _ ?_)
      · obtain ⟨hc', hf'⟩ := bcell hw'
        go_simp
        first | rfl | exact ⟨rfl, rfl⟩ | exact ⟨rfl⟩
      clear hK K
      refine wpQuiet_step (fun K hK => ?_)
      go_simp
      refine ⟨_, fun w' hw' => rfl, hK _ ?_⟩
      clear hK K
      refine wpQuiet_step (fun K hK => ?_)
      go_simp
      refine ⟨_, fun w' hw' => rfl, hK _ ?_⟩
      clear hK K
      refine wpQuiet_step (fun K hK => ?_)
      go_simp
      refine ⟨_, fun w' hw' => rfl, hK _ ?_⟩
      clear hK K
      refine wpQuiet_step (fun K hK => ?_)
      go_simp
      refine ⟨_, fun w' hw' => rfl, hK _ ?_⟩
      clear hK K
      refine wpQuiet_step (fun K hK => ?_)
      go_simp
      apply Exists.intro
      refine And.intro (fun w' hw' => ?_) (hK _ ?_)
      · obtain ⟨hc', hf'⟩ := bcell hw'
        go_simp
        first | rfl | exact ⟨rfl, rfl⟩ | exact ⟨rfl⟩
      clear hK K
      refine wpQuiet_step (fun K hK => ?_)
      go_simp
      apply Exists.intro
      refine And.intro (fun w' hw' => ?_) (hK _ ?_)
      · obtain ⟨hc', hf'⟩ := bcell hw'
        go_simp
        first | rfl | exact ⟨rfl, rfl⟩ | exact ⟨rfl⟩
      clear hK K
      refine wpQuiet_step (fun K hK => ?_)
      go_simp
      apply Exists.intro
      refine And.intro (fun w' hw' => ?_) (hK _ ?_)
      · refine ((hlk ▸ l1like_any (d.L q).key v _)).mono ?_
        rintro e w'' ⟨rfl, hb⟩
        exact ⟨rfl, hw'.trans (hb.mono hw'.size)⟩
      clear hK K
      refine wpQuiet_step (fun K hK => ?_)
      go_simp
      refine ⟨_, fun w' hw' => rfl, hK _ ?_⟩
      clear hK K
      refine wpQuiet_nil ?_
      intro w2 hw2
      have HB2 := hide ((unhide HB).trans (hw2.mono (unhide HB).size))
      clear hw2 e0 c0 c2
      go_wp2
      go_ret
      exact ⟨by rw [unhide HT]; rfl, (unhide HB1).trans ((unhide HB2).mono (unhide HB1).size)⟩
end Go.Proofs.YtglcaejddckleaaGreatDoor
