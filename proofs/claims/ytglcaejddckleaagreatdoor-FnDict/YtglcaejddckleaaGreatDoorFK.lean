import Derived.Test.YtglcaejddckleaaGreatDoorFA
import Derived.Test.YtglcaejddckleaaGreatDoorFI
import Derived.Test.YtglcaejddckleaaGreatDoorFJ
import Derived.Test.YtglcaejddckleaaGreatDoorFE
import Derived.Test.YtglcaejddckleaaGreatDoorFH
import Derived.Test.YtglcaejddckleaaGreatDoorFD
set_option linter.unusedVariables false
namespace Go.Proofs.YtglcaejddckleaaGreatDoor
section
open Go.RowKit Go.Shelf
theorem inv_ok {d : Dc} (h : Inv Ky hN d) : dictOk d (hD d) = 0 := (h.sound keyLaw).zero
theorem livL_mem {d : Dc} {k i : Nat} : i ∈ livL d k ↔ i < k ∧ (d.L i).turn ≠ 0 := by
 unfold livL
 rw [List.mem_filter, List.mem_range]
 simp
theorem livL_sorted (d : Dc) (k : Nat) : (livL d k).Pairwise (· < ·) := List.Pairwise.filter _ List.pairwise_lt_range
section
variable {d : Dc} (h : Inv Ky hN d)
include h
theorem lv_get {j : Nat} (hj : j < (livL d d.n).length) : lvF d j = d.L (livL d d.n)[j] ∧ (livL d d.n)[j] < d.n ∧ (d.L (livL d d.n)[j]).turn ≠ 0 ∧ 0 < (d.L (livL d d.n)[j]).turn := by
 have hm := livL_mem.1 (List.getElem_mem hj)
 refine ⟨?_, hm.1, hm.2, ?_⟩
 ·unfold lvF
  rw [List.getD_eq_getElem?_getD, List.getElem?_eq_getElem hj]
  rfl
 ·rcases h.i0.log.ent _ hm.1 with e | e
  ·exact absurd e.1 hm.2
  ·exact e.1
theorem lv_lt {j k : Nat} (hk : k < (livL d d.n).length) (hjk : j < k) : (d.L ((livL d d.n)[j]'(Nat.lt_trans hjk hk))).turn < (d.L (livL d d.n)[k]).turn := by
 have h1 := lv_get h hk
 have h2 := lv_get h (Nat.lt_trans hjk hk)
 exact h.i0.log.ord _ _ (List.pairwise_iff_getElem.1 (livL_sorted d d.n) j k _ hk hjk) h1.2.1 h2.2.2.1 h1.2.2.1
theorem lv_has {j : Nat} (hj : j < lvN d) : Has d (lvF d j) := by
 obtain ⟨e, h1, h2, _⟩ := lv_get h hj
 rw [e]
 exact has_at h1 h2
omit h in
theorem has_lv {p : Pr} (hp : Has d p) : ∃ j, j < lvN d ∧ lvF d j = p := by
 obtain ⟨i, h1, h2, rfl⟩ := hp
 obtain ⟨j, hj, e⟩ := List.getElem_of_mem (livL_mem.2 ⟨h1, h2⟩)
 refine ⟨j, hj, ?_⟩
 unfold lvF
 rw [List.getD_eq_getElem?_getD, List.getElem?_eq_getElem hj, e]
 rfl
theorem get_has {k : Vl} (hk : Ky k) {p : Pr} (hp : Has d p) (hl : likeB p.key k = true) : getV d 0 k = p.val := by
 have e0 : getV d 0 k = atPlace d (placeI d k (hN k)) := if_pos ⟨inv_ok h, rfl⟩
 rw [e0]
 obtain ⟨i, i1, i2, rfl⟩ := hp
 rcases h.i0.place keyLaw hk with ⟨j, j1, j2, j3, j4⟩ | ⟨j1, j2⟩
 ·rw [j4]
  have hij : i = j := h.i0.dist i j i1 j1 i2 j2 (keyLaw.trans _ _ _ (h.i0.keys i i1 i2) hk (h.i0.keys j j1 j2) hl (keyLaw.symm _ _ (h.i0.keys j j1 j2) hk j3))
  subst hij
  unfold atPlace
  rw [if_pos (by omega)]
  rfl
 ·rw [j1 i i1 i2] at hl
  exact absurd hl (by decide)
theorem get_no {k : Vl} (hk : Ky k) (hno : ∀ p, Has d p → likeB p.key k = false) : getV d 0 k = default := by
 have e0 : getV d 0 k = atPlace d (placeI d k (hN k)) := if_pos ⟨inv_ok h, rfl⟩
 rw [e0]
 rcases h.i0.place keyLaw hk with ⟨j, j1, j2, j3, j4⟩ | ⟨j1, j2⟩
 ·rw [hno _ (has_at j1 j2)] at j3
  exact absurd j3 (by decide)
 ·rw [j2]
  rfl
end
theorem feq_bits {x y : Nat} (h : feq x y = true) (hx : x < 18446744073709551616) (hy : y < 18446744073709551616) (nx : x ≠ 9223372036854775808) (ny : y ≠ 9223372036854775808) : x = y := by
 obtain ⟨a, e, f, rfl, ha, he, hf⟩ := Fl.fields x hx
 obtain ⟨b, g, q, rfl, hb, hg, hq⟩ := Fl.fields y hy
 rcases feq_cases h with ⟨s, m, i, t, n, j, h1, h2, h3, h4, h5, h6, h7, h8, e0⟩ | ⟨s, h1, h2⟩
 ·have he' : e < 2047 := by
   by_cases c : e = 2047
   ·subst c
    rw [Fl.read_inf_fields a f ha hf] at h1
    split at h1 <;> cases h1
   ·omega
  have hg' : g < 2047 := by
   by_cases c : g = 2047
   ·subst c
    rw [Fl.read_inf_fields b q hb hq] at h2
    split at h2 <;> cases h2
   ·omega
  rw [Fl.read_fields a e f ha he' hf] at h1
  rw [Fl.read_fields b g q hb hg' hq] at h2
  by_cases z : Fl.sc s m i = 0
  ·have zero : ∀ (u : Bool) (k : Nat) (l : Int), Fl.sc u k l = 0 → k = 0 := by
    intro u k l hz
    unfold Fl.sc at hz
    rw [Fl.signed_eq] at hz
    have hp := Fl.pow_pos' (l + 1074).toNat
    generalize (2 : Int) ^ (l + 1074).toNat = v at hz hp
    have hz1 : (k : Int) * v = 0 := by
     cases u
     ·simpa using hz
     ·simpa using hz
    rcases Int.mul_eq_zero.1 hz1 with h | h <;> omega
   have m0 := zero _ _ _ z
   have n0 := zero _ _ _ (e0 ▸ z)
   injection h1 with _ p1 _
   injection h2 with _ p2 _
   rw [m0] at p1
   rw [n0] at p2
   by_cases c : e = 0
   ·by_cases c' : g = 0
    ·rw [if_pos c] at p1
     rw [if_pos c'] at p2
     omega
    ·rw [if_neg c'] at p2
     omega
   ·rw [if_neg c] at p1
    omega
  ·obtain ⟨u1, u2, u3⟩ := form_one h3 h4 h5 h6 h7 h8 e0 z
   subst u1 u2 u3
   rw [← h2] at h1
   injection h1 with p0 p1 p2
   have hab : a = b := by
    rcases (show a = 0 ∨ a = 1 by omega) with c | c <;> rcases (show b = 0 ∨ b = 1 by omega) with c' | c' <;> subst c <;> subst c' <;> first | rfl | exact absurd p0 (by decide)
   by_cases c : e = 0
   ·by_cases c' : g = 0
    ·rw [if_pos c, if_pos c'] at p1
     omega
    ·rw [if_pos c, if_neg c'] at p1
     omega
   ·by_cases c' : g = 0
    ·rw [if_neg c, if_pos c'] at p1
     omega
    ·rw [if_neg c, if_neg c'] at p1 p2
     omega
 ·have he' : e = 2047 := by
   by_cases c : e = 2047
   ·exact c
   ·rw [Fl.read_fields a e f ha (by omega) hf] at h1
    cases h1
  have hg' : g = 2047 := by
   by_cases c : g = 2047
   ·exact c
   ·rw [Fl.read_fields b g q hb (by omega) hq] at h2
    cases h2
  subst he' hg'
  rw [Fl.read_inf_fields a f ha hf] at h1
  rw [Fl.read_inf_fields b q hb hq] at h2
  by_cases c : f = 0
  ·by_cases c' : q = 0
   ·rw [if_pos c] at h1
    rw [if_pos c', ← h1] at h2
    injection h2 with p0
    rcases (show a = 0 ∨ a = 1 by omega) with d | d <;> rcases (show b = 0 ∨ b = 1 by omega) with d' | d' <;> subst d <;> subst d' <;> first | omega | exact absurd p0 (by decide)
   ·rw [if_neg c'] at h2; cases h2
  ·rw [if_neg c] at h1; cases h1
theorem like_same {a b : Vl} (ha : Ky a) (hb : Ky b) (na : Nz a) (nb : Nz b) (h : likeB a b = true) : a = b := by
 obtain ⟨f1, f2, f3⟩ := like_flt h
 have e1 := like_kind h
 have e2 := like_num h
 have e3 := feq_bits f1 ha.2.flt hb.2.flt na nb
 have e4 : a.str = b.str := by
  have := toList_inj f2
  cases hs : a.str; cases ht : b.str
  rw [hs, ht] at this
  congr 1
  exact Array.toList_inj.1 this
 cases a; cases b
 simp_all
theorem keyV_key {k : Vl} (hk : Ky k) : keyV k.kind k.num k.flt k.str k.ref = KV 0 k.kind k.num k.flt k.str k.ref := by
 have h := hk.1
 unfold keyB Vl.ok at h
 unfold keyV
 by_cases h3 : k.kind = 3
 ·simp [h3] at h ⊢
  simp [h]
 ·simp [h3] at h ⊢
  simp [h]
structure PutLaw (d e : Dc) (k v : Vl) : Prop where
 now : ¬ ((getV d 0 k).kind = 0 ∧ lvN d = 500) → getV e 0 k = v
 rest : ∀ j, j < lvN d → (lvF d j).key ≠ k → getV e 0 (lvF d j).key = (lvF d j).val
 last : v.kind ≠ 0 → (getV d 0 k).kind = 0 → ¬ ((getV d 0 k).kind = 0 ∧ lvN d = 500) → 0 < lvN e ∧ (lvF e (lvN e - 1)).key = k ∧ e.turns = d.turns + 1
 same : ¬ (v.kind ≠ 0 ∧ (getV d 0 k).kind = 0 ∧ ¬ ((getV d 0 k).kind = 0 ∧ lvN d = 500)) → e.turns = d.turns
theorem put_law {d : Dc} (h : Inv Ky hN d) (hz : LogQ NzP d) (ht : d.turns < 1000000000000) {k v : Vl} (hk : Ky k) (hkz : Nz k) (hv : v.ok = true) (hv0 : v.kind = 0 → v = default) : PutLaw d (putD hN d k v) k v := by
 have hI := putD_inv keyLaw h hk hk.1 hv
 have hcnt : (lvN d : Int) = d.live := h.i0.log.cnt
 have hle := h.i0.le
 have key : ∀ p, Has d p → p.key ≠ k → likeB p.key k = false := by
  intro p hp hne
  by_cases c : likeB p.key k = true
  ·refine absurd (like_same (h.keyOf hp) hk ?_ hkz c) hne
   obtain ⟨i, i1, i2, rfl⟩ := hp
   exact hz i i1
  ·simpa using c
 have old_yes : ∀ q, Has d q → likeB q.key k = true → getV d 0 k = q.val ∧ (getV d 0 k).kind ≠ 0 := by
  intro q hq hl
  have := get_has h hk hq hl
  exact ⟨this, by rw [this]; exact (h.entry hq).2.2.2⟩
 have old_no : (∀ p, Has d p → likeB p.key k = false) → getV d 0 k = default := get_no h hk
 have stay : ∀ j, j < lvN d → Has (putD hN d k v) (lvF d j) → getV (putD hN d k v) 0 (lvF d j).key = (lvF d j).val := by
  intro j hj hp
  exact get_has hI (hI.keyOf hp) hp (keyLaw.refl _ (hI.keyOf hp))
 rcases put_says keyLaw h hk hk.1 hv with ⟨q, q1, q2, q3, q4, q5, q6⟩ | ⟨q, q1, q2, q3, q4, q5, q6⟩ | ⟨q1, q2, q3, q4, q5⟩ | ⟨q1, q2, q3⟩
 ·have ho := (old_yes q q1 q2).2
  refine ⟨fun _ => ?_, fun j hj hne => ?_, fun h1 => absurd q3 h1, fun _ => q6⟩
  ·rw [get_no hI hk (fun p hp => ((q4 p).1 hp).2), hv0 q3]
  ·exact stay j hj ((q4 _).2 ⟨lv_has h hj, key _ (lv_has h hj) hne⟩)
 ·have ho := (old_yes q q1 q2).2
  refine ⟨fun _ => ?_, fun j hj hne => ?_, fun _ h1 => absurd h1 ho, fun _ => q6⟩
  ·exact get_has hI hk (p := ⟨q.key, v, q.turn⟩) ((q4 _).2 (.inr rfl)) q2
  ·exact stay j hj ((q4 _).2 (.inl ⟨lv_has h hj, key _ (lv_has h hj) hne⟩))
 ·have hnew : Has (putD hN d k v) ⟨k, v, d.turns + 1⟩ := (q3 _).2 (.inr rfl)
  have ho := old_no q1
  refine ⟨fun _ => get_has hI hk hnew (keyLaw.refl _ hk), fun j hj hne => stay j hj ((q3 _).2 (.inl (lv_has h hj))), fun _ _ _ => ?_, fun hc => ?_⟩
  ·obtain ⟨j, hj, e⟩ := has_lv hnew
   have hlast : j = lvN (putD hN d k v) - 1 := by
    by_cases c : j = lvN (putD hN d k v) - 1
    ·exact c
    ·exfalso
     have h1 : j + 1 < (livL (putD hN d k v) (putD hN d k v).n).length := by show j + 1 < lvN _; omega
     have h2 := lv_lt hI h1 (Nat.lt_succ_self j)
     have e1 := (lv_get hI (show j < _ from hj)).1
     have e2 := (lv_get hI h1).1
     have h3 := (hI.entry (lv_has hI h1)).2.1
     rw [← e1, ← e2, e] at h2
     have h2 : d.turns + 1 < (lvF (putD hN d k v) (j + 1)).turn := h2
     omega
   exact ⟨by omega, by rw [← hlast, e], q5⟩
  ·exfalso
   refine hc ⟨q2, by rw [ho]; rfl, fun hf => ?_⟩
   have := hI.i0.le
   omega
 ·have ho := old_no q1
  have hok : (default : Vl).kind = 0 := rfl
  rw [q3]
  refine ⟨fun hf => ?_, fun j hj hne => ?_, fun h1 h2 h3 => ?_, fun _ => rfl⟩
  ·by_cases c : v.kind = 0
   ·rw [ho, hv0 c]
   ·exfalso
    have hl : ¬ d.live < 500 := fun hl => q2 ⟨c, hl, ht⟩
    exact hf ⟨by rw [ho]; rfl, by omega⟩
  ·exact get_has h (h.keyOf (lv_has h hj)) (lv_has h hj) (keyLaw.refl _ (h.keyOf (lv_has h hj)))
  ·exfalso
   have hl : ¬ d.live < 500 := fun hl => q2 ⟨h1, hl, ht⟩
   exact h3 ⟨h2, by omega⟩
theorem lv_order {d : Dc} (h : Inv Ky hN d) {j : Nat} (hj : j + 1 < lvN d) : (lvF d j).turn < (lvF d (j + 1)).turn := by
 have h1 : j + 1 < (livL d d.n).length := hj
 have h2 := lv_lt h h1 (Nat.lt_succ_self j)
 rw [(lv_get h (show j < _ by omega)).1, (lv_get h h1).1]
 exact h2
end
section
open Go.RowKit Go.Shelf
attribute [local go_sem] run_store_float run_equalIn_float
set_option maxHeartbeats 4000000 in
theorem wVal_det (a b : Vl) : ∃ x, ∀ w : World, Calls Tryz.prog 22 #[VV a, VV b] w fun e w' => e = .returned (.bool x) ∧ Below w.heap.size w w' := by
 have HB : Hid (∀ w : World, Below w.heap.size w ((w.alloc (.cells #[.int .i64 a.kind, .int .i64 a.num, .float .f64 a.flt, .string a.str, .int .i64 a.ref] 30)).alloc (.cells #[.int .i64 b.kind, .int .i64 b.num, .float .f64 b.flt, .string b.str, .int .i64 b.ref] 30))) := uy fun w => ((Below.refl _ _).alloc (Nat.le_refl _) _).alloc (by simp) _
 by_cases h1 : a.kind = b.kind
 case neg =>
  have g1 : (a.kind != b.kind) = true := by simpa using h1
  refine ⟨false, fun w => ?_⟩
  go_enter Tryz.func22, Tryz.ntmps22
  go_wp2
  go_ret
  exact ⟨by first | rfl | simp_all, uh HB w⟩
 have g1 : (a.kind != b.kind) = false := by simpa using h1
 by_cases h2 : a.num = b.num
 case neg =>
  have g2 : (a.num != b.num) = true := by simpa using h2
  refine ⟨false, fun w => ?_⟩
  clear h1
  go_enter Tryz.func22, Tryz.ntmps22
  go_wp2
  go_ret
  exact ⟨by first | rfl | simp_all, uh HB w⟩
 have g2 : (a.num != b.num) = false := by simpa using h2
 by_cases h3 : a.str.toList = b.str.toList
 case neg =>
  refine ⟨false, fun w => ?_⟩
  clear h1 h2
  go_enter Tryz.func22, Tryz.ntmps22
  go_wp2
  go_ret
  exact ⟨by first | rfl | simp_all, uh HB w⟩
 by_cases h4 : a.ref = b.ref
 case neg =>
  have g4 : (a.ref != b.ref) = true := by simpa using h4
  refine ⟨false, fun w => ?_⟩
  clear h1 h2
  go_enter Tryz.func22, Tryz.ntmps22
  go_wp2
  go_ret
  exact ⟨by first | rfl | simp_all, uh HB w⟩
 have g4 : (a.ref != b.ref) = false := by simpa using h4
 clear h1 h2 h4
 by_cases n1 : fnan a.flt = true
 ·have k1 : (FloatKind.f64.format.order a.flt a.flt != some .eq) = true := n1
  obtain ⟨y, hy⟩ : ∃ y, (FloatKind.f64.format.order b.flt b.flt != some .eq) = y := ⟨_, rfl⟩
  refine ⟨y, fun w => ?_⟩
  clear n1
  go_enter Tryz.func22, Tryz.ntmps22
  go_wp2
  go_ret
  exact ⟨by first | rfl | simp_all, uh HB w⟩
 have k1 : (FloatKind.f64.format.order a.flt a.flt != some .eq) = false := (by simpa using n1 : fnan a.flt = false)
 by_cases n2 : fnan b.flt = true
 ·have k2 : (FloatKind.f64.format.order b.flt b.flt != some .eq) = true := n2
  refine ⟨false, fun w => ?_⟩
  clear n1 n2
  go_enter Tryz.func22, Tryz.ntmps22
  go_wp2
  go_ret
  exact ⟨by first | rfl | simp_all, uh HB w⟩
 have k2 : (FloatKind.f64.format.order b.flt b.flt != some .eq) = false := (by simpa using n2 : fnan b.flt = false)
 clear n1 n2
 by_cases e : feq a.flt b.flt = true
 case neg =>
  have g5 : (FloatKind.f64.format.order a.flt b.flt == some .eq) = false := (by simpa using e : feq a.flt b.flt = false)
  refine ⟨false, fun w => ?_⟩
  clear e
  go_enter Tryz.func22, Tryz.ntmps22
  go_wp2
  go_ret
  exact ⟨by first | rfl | simp_all, uh HB w⟩
 have g5 : (FloatKind.f64.format.order a.flt b.flt == some .eq) = true := e
 by_cases z : fz a.flt = true
 case neg =>
  have g6 : (FloatKind.f64.format.order a.flt 0 != some .eq) = true := by
   have : (FloatKind.f64.format.order a.flt 0 == some .eq) = false := (by simpa using z : fz a.flt = false)
   simpa using this
  refine ⟨true, fun w => ?_⟩
  clear e z
  go_enter Tryz.func22, Tryz.ntmps22
  go_wp2
  go_ret
  exact ⟨by first | rfl | simp_all, uh HB w⟩
 have g6 : (FloatKind.f64.format.order a.flt 0 != some .eq) = false := by
  have : (FloatKind.f64.format.order a.flt 0 == some .eq) = true := z
  simpa using this
 have z' : fz b.flt = true := feq_trans (feq_symm e) z
 obtain ⟨r, hr, _⟩ := quo_zero' z
 obtain ⟨r', hr', _⟩ := quo_zero' z'
 have hq : ∀ w : World, (binOp .quo 28 (.float .f64 4607182418800017408) (.float .f64 a.flt)).run Tryz.prog w = .ok (.float .f64 r) w := fun w => run_float_arith w .quo 28 .f64 _ _ r hr
 have hq' : ∀ w : World, (binOp .quo 28 (.float .f64 4607182418800017408) (.float .f64 b.flt)).run Tryz.prog w = .ok (.float .f64 r') w := fun w => run_float_arith w .quo 28 .f64 _ _ r' hr'
 refine ⟨FloatKind.f64.format.order r r' == some .eq, fun w => ?_⟩
 clear e z z' hr hr'
 go_enter Tryz.func22, Tryz.ntmps22
 go_wp2
 go_ret
 exact ⟨by first | rfl | simp_all, uh HB w⟩
set_option maxRecDepth 100000 in
set_option maxHeartbeats 2000000 in
theorem wInts_same (a a' : Option Addr) (n cap cap' : Nat) (f : Nat → Int) (w : World) (hA : IAt w a n f) (hB : IAt w a' n f) (hn : n ≤ 4194304) :
  Calls Tryz.prog 55 #[.slice a n cap, .slice a' n cap'] w fun e w' => e = .returned (.bool true) ∧ Below w.heap.size w w' := by
 have HA := uy hA
 have HB := uy hB
 clear hA hB
 go_enter Tryz.func55, Tryz.ntmps55
 go_wp2
 go_loopw [13] (fun i wr => ∃ (k : Nat), k ≤ n ∧ i = .int .i64 k ∧ Below w.heap.size w wr) (fun i _ => n - (intOf i).toNat)
 case atStart => exact ⟨0, by omega, rfl, Below.refl _ _⟩
 case round =>
  obtain ⟨k, hk, rfl, hb⟩ := hrel
  by_cases hlt : k < n
  ·obtain ⟨b, off, rfl, hbl, hcs⟩ := (uh HA).resolve_left (by omega)
   obtain ⟨b', off', rfl, hbl', hcs'⟩ := (uh HB).resolve_left (by omega)
   have e0 := (hb.cell (p := ⟨b, off + k, none⟩) hbl).trans (hcs k hlt)
   have d0 := (hb.cell (p := ⟨b', off' + k, none⟩) hbl').trans (hcs' k hlt)
   have hx : b < wr.heap.size := Nat.lt_of_lt_of_le hbl hb.size
   have hx' : b' < wr.heap.size := Nat.lt_of_lt_of_le hbl' hb.size
   have HBW := uy hb
   clear hb hcs hcs'
   go_wp2_with fail
   refine wp_region_quiet (C := fun w' => Below wr.heap.size wr w') (by kernel_rfl) (by kernel_rfl) ((Below.refl _ _).drew) ?_
   show wpQuiet _ _ _ _ [_, _, _, _, _, _, _, _, _] _
   iterate 3 (refine wpQuiet_step (fun K hK => ?_); go_simp; refine ⟨_, fun w' hw' => rfl, hK _ ?_⟩; clear hK K)
   refine wpQuiet_step (fun K hK => ?_)
   go_simp
   apply Exists.intro
   refine And.intro (fun w' hw' => ?_) (hK _ ?_)
   ·obtain ⟨hc', hf'⟩ := bcell hw'
    go_simp
    first | rfl | exact ⟨rfl, rfl⟩ | exact ⟨rfl⟩
   clear hK K
   iterate 3 (refine wpQuiet_step (fun K hK => ?_); go_simp; refine ⟨_, fun w' hw' => rfl, hK _ ?_⟩; clear hK K)
   refine wpQuiet_step (fun K hK => ?_)
   go_simp
   apply Exists.intro
   refine And.intro (fun w' hw' => ?_) (hK _ ?_)
   ·obtain ⟨hc', hf'⟩ := bcell hw'
    go_simp
    first | rfl | exact ⟨rfl, rfl⟩ | exact ⟨rfl⟩
   clear hK K
   refine wpQuiet_step (fun K hK => ?_)
   go_simp
   refine ⟨_, fun w' hw' => rfl, hK _ ?_⟩
   clear hK K
   refine wpQuiet_nil ?_
   intro w2 hw2
   have HB2 := uy ((uh HBW).trans (hw2.mono (uh HBW).size))
   clear hw2 e0 d0
   go_wp2
   go_roundw
   case rel => exact ⟨k + 1, by omega, by go_num, uh HB2⟩
   case measure => simp [intOf]; omega
  ·have : k = n := by omega
   subst this
   have HB2 := uy hb
   clear hb
   go_wp2
   go_ret
   exact ⟨rfl, uh HB2⟩
set_option maxRecDepth 100000 in
set_option maxHeartbeats 4000000 in
theorem wDict_same (la la' ia ia' xa xa' : Option Addr) (lc lc' ic ic' xc xc' : Nat) (d : Dc) (w : World) (hA : DAt w la ia xa d) (hB : DAt w la' ia' xa' d) (hS : Small d) :
  Calls Tryz.prog 16 #[Dv la lc ia ic xa xc d, Dv la' lc' ia' ic' xa' xc' d] w fun e w' => e = .returned (.bool true) ∧ Below w.heap.size w w' := by
 obtain ⟨W, hW⟩ : ∃ W, W = (w.alloc (.cells #[.slice la d.n lc, .slice ia d.m ic, .slice xa d.x xc, .int .i64 d.used, .int .i64 d.live, .int .i64 d.turns] 26)).alloc (.cells #[.slice la' d.n lc', .slice ia' d.m ic', .slice xa' d.x xc', .int .i64 d.used, .int .i64 d.live, .int .i64 d.turns] 26) := ⟨_, rfl⟩
 have hb0 : Below w.heap.size w W := by rw [hW]; exact ((Below.refl _ _).alloc (Nat.le_refl _) _).alloc (by simp) _
 have hsz : w.heap.size + 1 < W.heap.size := by rw [hW]; simp
 obtain ⟨hn, hm, hx⟩ := hS
 have HA := uy (hA.below hb0)
 have HB := uy (hB.below hb0)
 have H0 := uy hb0
 have c0 : ∀ o, W.cell? ⟨w.heap.size, o, none⟩ = ((w.alloc (.cells #[.slice la d.n lc, .slice ia d.m ic, .slice xa d.x xc, .int .i64 d.used, .int .i64 d.live, .int .i64 d.turns] 26)).alloc (.cells #[.slice la' d.n lc', .slice ia' d.m ic', .slice xa' d.x xc', .int .i64 d.used, .int .i64 d.live, .int .i64 d.turns] 26)).cell? ⟨w.heap.size, o, none⟩ := fun o => by rw [hW]
 have c1 : ∀ o, W.cell? ⟨w.heap.size + 1, o, none⟩ = ((w.alloc (.cells #[.slice la d.n lc, .slice ia d.m ic, .slice xa d.x xc, .int .i64 d.used, .int .i64 d.live, .int .i64 d.turns] 26)).alloc (.cells #[.slice la' d.n lc', .slice ia' d.m ic', .slice xa' d.x xc', .int .i64 d.used, .int .i64 d.live, .int .i64 d.turns] 26)).cell? ⟨w.heap.size + 1, o, none⟩ := fun o => by rw [hW]
 clear hA hB hb0
 go_enter Tryz.func16, Tryz.ntmps16
 go_wp2_with fail
 rw [← hW]
 clear hW
 refine (wPairs_same la la' d.n lc lc' d.L _ (uh HA).log (uh HB).log (by omega)).mono ?_
 rintro e w1 ⟨rfl, hb1⟩
 have HA1 := uy ((uh HA).below hb1)
 have HB1 := uy ((uh HB).below hb1)
 have H1 := uy ((uh H0).trans (hb1.mono (uh H0).size))
 have k0 : ∀ o, w1.cell? ⟨w.heap.size, o, none⟩ = _ := fun o => (hb1.cell (p := ⟨w.heap.size, o, none⟩) (by show w.heap.size < W.heap.size; omega)).trans (c0 o)
 have k1 : ∀ o, w1.cell? ⟨w.heap.size + 1, o, none⟩ = _ := fun o => (hb1.cell (p := ⟨w.heap.size + 1, o, none⟩) hsz).trans (c1 o)
 have hsz1 : w.heap.size + 1 < w1.heap.size := Nat.lt_of_lt_of_le hsz hb1.size
 clear hb1 c0 c1 HA HB H0 hsz
 go_wp2_with fail
 refine (wInts_same ia ia' d.m ic ic' d.I _ (uh HA1).ints (uh HB1).ints (by omega)).mono ?_
 rintro e w2 ⟨rfl, hb2⟩
 have HA2 := uy ((uh HA1).below hb2)
 have HB2 := uy ((uh HB1).below hb2)
 have H2 := uy ((uh H1).trans (hb2.mono (uh H1).size))
 have l0 : ∀ o, w2.cell? ⟨w.heap.size, o, none⟩ = _ := fun o => (hb2.cell (p := ⟨w.heap.size, o, none⟩) (by show w.heap.size < w1.heap.size; omega)).trans (k0 o)
 have l1 : ∀ o, w2.cell? ⟨w.heap.size + 1, o, none⟩ = _ := fun o => (hb2.cell (p := ⟨w.heap.size + 1, o, none⟩) hsz1).trans (k1 o)
 have hsz2 : w.heap.size + 1 < w2.heap.size := Nat.lt_of_lt_of_le hsz1 hb2.size
 clear hb2 k0 k1 HA1 HB1 H1 hsz1
 go_wp2_with fail
 refine (wInts_same xa xa' d.x xc xc' d.X _ (uh HA2).index (uh HB2).index (by omega)).mono ?_
 rintro e w3 ⟨rfl, hb3⟩
 have H3 := uy ((uh H2).trans (hb3.mono (uh H2).size))
 have m0 : ∀ o, w3.cell? ⟨w.heap.size, o, none⟩ = _ := fun o => (hb3.cell (p := ⟨w.heap.size, o, none⟩) (by show w.heap.size < w2.heap.size; omega)).trans (l0 o)
 have m1 : ∀ o, w3.cell? ⟨w.heap.size + 1, o, none⟩ = _ := fun o => (hb3.cell (p := ⟨w.heap.size + 1, o, none⟩) hsz2).trans (l1 o)
 clear hb3 l0 l1 HA2 HB2 H2 hsz2
 go_wp2
 go_ret
 exact ⟨rfl, uh H3⟩
end
section
open Go.RowKit Go.Shelf
attribute [local go_sem] run_store_float run_equalIn_float
theorem CodeAt.up {w w' : World} {b b' B : Nat} {a : Option Addr} {len : Nat} (h : CodeAt w b a len) (hb : Below B w w') (h1 : b ≤ B) (h2 : b ≤ b') : CodeAt w' b' a len := by
 refine ⟨h.1, ?_⟩
 rcases h.2 with h | ⟨k, off, e, hk, hc⟩
 ·exact .inl h
 ·refine .inr ⟨k, off, e, by omega, fun i hi => ?_⟩
  obtain ⟨z, hz, hr⟩ := hc i hi
  exact ⟨z, (hb.cell (p := ⟨k, off + i, none⟩) (by show k < B; omega)).trans hz, hr⟩
structure DB (w : World) (b : Nat) (la : Option Addr) (lc : Nat) (ia : Option Addr) (ic : Nat) (xa : Option Addr) (xc : Nat) (d : Dc) : Prop where
 lt : b < w.heap.size
 c0 : w.cell? ⟨b, 0, none⟩ = some (.slice la d.n lc)
 c1 : w.cell? ⟨b, 1, none⟩ = some (.slice ia d.m ic)
 c2 : w.cell? ⟨b, 2, none⟩ = some (.slice xa d.x xc)
 c3 : w.cell? ⟨b, 3, none⟩ = some (.int .i64 d.used)
 c4 : w.cell? ⟨b, 4, none⟩ = some (.int .i64 d.live)
 c5 : w.cell? ⟨b, 5, none⟩ = some (.int .i64 d.turns)
 at' : DAt w la ia xa d
theorem DB.below {w w' : World} {b : Nat} {la : Option Addr} {lc : Nat} {ia : Option Addr} {ic : Nat} {xa : Option Addr} {xc : Nat} {d : Dc} (h : DB w b la lc ia ic xa xc d) (hb : Below w.heap.size w w') : DB w' b la lc ia ic xa xc d :=
 ⟨Nat.lt_of_lt_of_le h.lt hb.size, (hb.cell (p := ⟨b, 0, none⟩) h.lt).trans h.c0, (hb.cell (p := ⟨b, 1, none⟩) h.lt).trans h.c1, (hb.cell (p := ⟨b, 2, none⟩) h.lt).trans h.c2, (hb.cell (p := ⟨b, 3, none⟩) h.lt).trans h.c3, (hb.cell (p := ⟨b, 4, none⟩) h.lt).trans h.c4, (hb.cell (p := ⟨b, 5, none⟩) h.lt).trans h.c5, h.at'.below hb⟩
structure VB (w : World) (b : Nat) (v : Vl) : Prop where
 lt : b < w.heap.size
 c0 : w.cell? ⟨b, 0, none⟩ = some (.int .i64 v.kind)
 c1 : w.cell? ⟨b, 1, none⟩ = some (.int .i64 v.num)
 c2 : w.cell? ⟨b, 2, none⟩ = some (.float .f64 v.flt)
 c3 : w.cell? ⟨b, 3, none⟩ = some (.string v.str)
 c4 : w.cell? ⟨b, 4, none⟩ = some (.int .i64 v.ref)
theorem VB.below {w w' : World} {b : Nat} {v : Vl} (h : VB w b v) (hb : Below w.heap.size w w') : VB w' b v :=
 ⟨Nat.lt_of_lt_of_le h.lt hb.size, (hb.cell (p := ⟨b, 0, none⟩) h.lt).trans h.c0, (hb.cell (p := ⟨b, 1, none⟩) h.lt).trans h.c1, (hb.cell (p := ⟨b, 2, none⟩) h.lt).trans h.c2, (hb.cell (p := ⟨b, 3, none⟩) h.lt).trans h.c3, (hb.cell (p := ⟨b, 4, none⟩) h.lt).trans h.c4⟩
structure KB (w : World) (b : Nat) (c : Int) (v : Vl) : Prop where
 lt : b < w.heap.size
 c0 : w.cell? ⟨b, 0, none⟩ = some (.int .i64 c)
 c1 : w.cell? ⟨b, 1, none⟩ = some (.int .i64 v.kind)
 c2 : w.cell? ⟨b, 2, none⟩ = some (.int .i64 v.num)
 c3 : w.cell? ⟨b, 3, none⟩ = some (.float .f64 v.flt)
 c4 : w.cell? ⟨b, 4, none⟩ = some (.string v.str)
 c5 : w.cell? ⟨b, 5, none⟩ = some (.int .i64 v.ref)
theorem KB.below {w w' : World} {b : Nat} {c : Int} {v : Vl} (h : KB w b c v) (hb : Below w.heap.size w w') : KB w' b c v :=
 ⟨Nat.lt_of_lt_of_le h.lt hb.size, (hb.cell (p := ⟨b, 0, none⟩) h.lt).trans h.c0, (hb.cell (p := ⟨b, 1, none⟩) h.lt).trans h.c1, (hb.cell (p := ⟨b, 2, none⟩) h.lt).trans h.c2, (hb.cell (p := ⟨b, 3, none⟩) h.lt).trans h.c3, (hb.cell (p := ⟨b, 4, none⟩) h.lt).trans h.c4, (hb.cell (p := ⟨b, 5, none⟩) h.lt).trans h.c5⟩
structure BX (w : World) (D K V Q E : Nat) (la : Option Addr) (lc : Nat) (ia : Option Addr) (ic : Nat) (xa : Option Addr) (xc : Nat) (d : Dc) (ea : Option Addr) (ec : Nat) (ja : Option Addr) (jc : Nat) (ya : Option Addr) (yc : Nat) (e : Dc) (k v kv : Vl) (c : Int) : Prop where
 d : DB w D la lc ia ic xa xc d
 k : VB w K k
 v : VB w V v
 q : KB w Q c kv
 e : DB w E ea ec ja jc ya yc e
 t : Tabs w
theorem BX.below {w w' : World} {D K V Q E : Nat} {la : Option Addr} {lc : Nat} {ia : Option Addr} {ic : Nat} {xa : Option Addr} {xc : Nat} {d : Dc} {ea : Option Addr} {ec : Nat} {ja : Option Addr} {jc : Nat} {ya : Option Addr} {yc : Nat} {e : Dc} {k v kv : Vl} {c : Int} (h : BX w D K V Q E la lc ia ic xa xc d ea ec ja jc ya yc e k v kv c) (hb : Below w.heap.size w w') : BX w' D K V Q E la lc ia ic xa xc d ea ec ja jc ya yc e k v kv c :=
 ⟨h.d.below hb, h.k.below hb, h.v.below hb, h.q.below hb, h.e.below hb, h.t.below hb h.t.sz⟩
structure RS (D K V E : Nat) (la : Option Addr) (lc : Nat) (ia : Option Addr) (ic : Nat) (xa : Option Addr) (xc : Nat) (d : Dc) (ea : Option Addr) (ec : Nat) (ja : Option Addr) (jc : Nat) (ya : Option Addr) (yc : Nat) (e : Dc) (k v : Vl) (w : World) : Prop where
 d0 : w.cell? ⟨D, 0, none⟩ = some (.slice la d.n lc)
 d1 : w.cell? ⟨D, 1, none⟩ = some (.slice ia d.m ic)
 d2 : w.cell? ⟨D, 2, none⟩ = some (.slice xa d.x xc)
 d3 : w.cell? ⟨D, 3, none⟩ = some (.int .i64 d.used)
 d4 : w.cell? ⟨D, 4, none⟩ = some (.int .i64 d.live)
 d5 : w.cell? ⟨D, 5, none⟩ = some (.int .i64 d.turns)
 e0 : w.cell? ⟨E, 0, none⟩ = some (.slice ea e.n ec)
 e1 : w.cell? ⟨E, 1, none⟩ = some (.slice ja e.m jc)
 e2 : w.cell? ⟨E, 2, none⟩ = some (.slice ya e.x yc)
 e3 : w.cell? ⟨E, 3, none⟩ = some (.int .i64 e.used)
 e4 : w.cell? ⟨E, 4, none⟩ = some (.int .i64 e.live)
 e5 : w.cell? ⟨E, 5, none⟩ = some (.int .i64 e.turns)
 k0 : w.cell? ⟨K, 0, none⟩ = some (.int .i64 k.kind)
 k1 : w.cell? ⟨K, 1, none⟩ = some (.int .i64 k.num)
 k2 : w.cell? ⟨K, 2, none⟩ = some (.float .f64 k.flt)
 k3 : w.cell? ⟨K, 3, none⟩ = some (.string k.str)
 k4 : w.cell? ⟨K, 4, none⟩ = some (.int .i64 k.ref)
 v0 : w.cell? ⟨V, 0, none⟩ = some (.int .i64 v.kind)
 v1 : w.cell? ⟨V, 1, none⟩ = some (.int .i64 v.num)
 v2 : w.cell? ⟨V, 2, none⟩ = some (.float .f64 v.flt)
 v3 : w.cell? ⟨V, 3, none⟩ = some (.string v.str)
 v4 : w.cell? ⟨V, 4, none⟩ = some (.int .i64 v.ref)
theorem BX.rs {w : World} {D K V Q E : Nat} {la : Option Addr} {lc : Nat} {ia : Option Addr} {ic : Nat} {xa : Option Addr} {xc : Nat} {d : Dc} {ea : Option Addr} {ec : Nat} {ja : Option Addr} {jc : Nat} {ya : Option Addr} {yc : Nat} {e : Dc} {k v kv : Vl} {c : Int} (h : BX w D K V Q E la lc ia ic xa xc d ea ec ja jc ya yc e k v kv c) : RS D K V E la lc ia ic xa xc d ea ec ja jc ya yc e k v w :=
 ⟨h.d.c0, h.d.c1, h.d.c2, h.d.c3, h.d.c4, h.d.c5, h.e.c0, h.e.c1, h.e.c2, h.e.c3, h.e.c4, h.e.c5, h.k.c0, h.k.c1, h.k.c2, h.k.c3, h.k.c4, h.v.c0, h.v.c1, h.v.c2, h.v.c3, h.v.c4⟩
theorem field_code (c k n : Int) (f : Nat) (s : ByteArray) (r : Int) (w : World) : (Instr.field 34 (KV c k n f s r) 0).run Tryz.prog w = .ok (.int .i64 c) w := by kernel_rfl
end
end Go.Proofs.YtglcaejddckleaaGreatDoor
