/-
  AcA.
-/
import Derived.Test.YtnjgebncghdajaaGreatDoorBi5
import Derived.Test.YtnjgebncghdajaaGreatDoorHide
namespace Go.Proofs.YtnjgebncghdajaaGreatDoor
open Go.RowKit
set_option linter.unusedVariables false
attribute [local go_sem] run_store_float run_equalIn_float

structure Ac where
  op : Int
  t : Int
  site : Int
  n : Int
  k : Vl
  v : Vl
/-- An Act, as the walk shows it. -/
abbrev AcV (a : Ac) : Value := .agg #[.int .i64 a.op, .int .i64 a.t, .int .i64 a.site, .int .i64 a.n, .int .i64 a.k.kind, .int .i64 a.k.num, .float .f64 a.k.flt, .string a.k.str, .int .i64 a.k.ref, .int .i64 a.v.kind, .int .i64 a.v.num, .float .f64 a.v.flt, .string a.v.str, .int .i64 a.v.ref]

def nonB (v : Vl) : Bool := (v.kind == 0) && v.ok
def bareB (a : Ac) (t s n k v : Bool) : Bool := (t || a.t == 0) && (s || a.site == 0) && (n || a.n == 0) && (k || nonB a.k) && (v || nonB a.v)
def rngB (a : Ac) : Bool := !decide (a.t < 0) && !decide (100 ≤ a.t) && !decide (a.site < 0) && !decide (50 ≤ a.site) && !decide (a.n < 0) && !decide (1000000000000 < a.n) && a.k.ok && a.v.ok
def actB (a : Ac) : Bool :=
  rngB a && (if a.op = 1 then bareB a false false false false false
    else if a.op = 2 then bareB a true false false true true
    else if a.op = 3 then bareB a true false false true false
    else if a.op = 4 then bareB a true false true false false
    else if a.op = 5 then bareB a true false false false false
    else if a.op = 6 then bareB a true false false false false
    else if a.op = 7 then bareB a false false false true false && a.k.kind == 4
    else if a.op = 8 then bareB a true true false false false
    else if a.op = 9 then bareB a true true false false true
    else false)

set_option maxHeartbeats 1000000 in
theorem nonB_any (v : Vl) (w : World) :
    Calls Tryz.prog 59 #[V v.kind v.num v.flt v.str v.ref] w fun e w' => e = .returned (.bool (nonB v)) ∧ Below w.heap.size w w' := by
  by_cases h : v.kind = 0
  · have hk : (v.kind == 0) = true := by simp [h]
    have HT : Hid (nonB v = v.ok) := hide (by unfold nonB; rw [hk]; rfl)
    clear h
    go_enter Tryz.func59, Tryz.ntmps59
    go_wp2_with (go_at_call 42; refine (valueOk_any v.kind v.num v.flt v.str v.ref _).mono ?_; rintro e w1 ⟨rfl, hb⟩)
    go_ret
    exact ⟨by rw [unhide HT]; rfl, ((Below.refl _ _).alloc (Nat.le_refl _) _).trans (hb.mono (by simp))⟩
  · have hk : (v.kind == 0) = false := by simp [h]
    have HT : Hid (nonB v = false) := hide (by unfold nonB; rw [hk]; rfl)
    clear h
    go_enter Tryz.func59, Tryz.ntmps59
    go_wp2
    go_ret
    exact ⟨by rw [unhide HT]; rfl, (Below.refl _ _).alloc (Nat.le_refl _) _⟩

set_option maxRecDepth 100000 in
set_option maxHeartbeats 2000000 in
theorem bare1 (a : Ac) (w : World) :
    Calls Tryz.prog 43 #[AcV a, .bool false, .bool false, .bool false, .bool false, .bool false] w fun e w' => e = .returned (.bool (bareB a false false false false false)) ∧ Below w.heap.size w w' := by
  have hb0 : Below w.heap.size w (w.alloc (.cells #[.int .i64 a.op, .int .i64 a.t, .int .i64 a.site, .int .i64 a.n, .int .i64 a.k.kind, .int .i64 a.k.num, .float .f64 a.k.flt, .string a.k.str, .int .i64 a.k.ref, .int .i64 a.v.kind, .int .i64 a.v.num, .float .f64 a.v.flt, .string a.v.str, .int .i64 a.v.ref] 48)) := (Below.refl _ _).alloc (Nat.le_refl _) _
  have HB := hide hb0
  clear hb0
  cases t0 : (a.t == 0)
  case false =>
    have HT : Hid (bareB a false false false false false = false) := hide (by unfold bareB; simp [t0])
    go_enter Tryz.func43, Tryz.ntmps43
    go_wp2
    go_ret
    exact ⟨by rw [unhide HT]; rfl, unhide HB⟩
  cases t1 : (a.site == 0)
  case false =>
    have HT : Hid (bareB a false false false false false = false) := hide (by unfold bareB; simp [t0, t1])
    go_enter Tryz.func43, Tryz.ntmps43
    go_wp2
    go_ret
    exact ⟨by rw [unhide HT]; rfl, unhide HB⟩
  cases t2 : (a.n == 0)
  case false =>
    have HT : Hid (bareB a false false false false false = false) := hide (by unfold bareB; simp [t0, t1, t2])
    go_enter Tryz.func43, Tryz.ntmps43
    go_wp2
    go_ret
    exact ⟨by rw [unhide HT]; rfl, unhide HB⟩
  cases t3 : nonB a.k
  case false =>
    have HT : Hid (bareB a false false false false false = false) := hide (by unfold bareB; simp [t0, t1, t2, t3])
    go_enter Tryz.func43, Tryz.ntmps43
    go_wp2_with fail
    refine (t3 ▸ nonB_any a.k _).mono ?_
    rintro e w3 ⟨rfl, hb⟩
    obtain ⟨hc3, hf3⟩ := bcell hb
    have hz3 := hb.size
    try simp at hz3
    have y3 : w.heap.size < w3.heap.size := by omega
    have HB := hide ((unhide HB).trans (hb.mono (unhide HB).size))
    clear hb
    go_wp2_with fail
    go_ret
    exact ⟨by rw [unhide HT]; rfl, unhide HB⟩
  cases t4 : nonB a.v
  case false =>
    have HT : Hid (bareB a false false false false false = false) := hide (by unfold bareB; simp [t0, t1, t2, t3, t4])
    go_enter Tryz.func43, Tryz.ntmps43
    go_wp2_with fail
    refine (t3 ▸ nonB_any a.k _).mono ?_
    rintro e w3 ⟨rfl, hb⟩
    obtain ⟨hc3, hf3⟩ := bcell hb
    have hz3 := hb.size
    try simp at hz3
    have y3 : w.heap.size < w3.heap.size := by omega
    have HB := hide ((unhide HB).trans (hb.mono (unhide HB).size))
    clear hb
    go_wp2_with fail
    refine (t4 ▸ nonB_any a.v _).mono ?_
    rintro e w4 ⟨rfl, hb⟩
    obtain ⟨hc4, hf4⟩ := bcell hb
    have hz4 := hb.size
    try simp at hz4
    have y4 : w.heap.size < w4.heap.size := by omega
    have HB := hide ((unhide HB).trans (hb.mono (unhide HB).size))
    clear hb
    go_wp2_with fail
    go_ret
    exact ⟨by rw [unhide HT]; rfl, unhide HB⟩
  have HT : Hid (bareB a false false false false false = true) := hide (by unfold bareB; simp [t0, t1, t2, t3, t4])
  go_enter Tryz.func43, Tryz.ntmps43
  go_wp2_with fail
  refine (t3 ▸ nonB_any a.k _).mono ?_
  rintro e w3 ⟨rfl, hb⟩
  obtain ⟨hc3, hf3⟩ := bcell hb
  have hz3 := hb.size
  try simp at hz3
  have y3 : w.heap.size < w3.heap.size := by omega
  have HB := hide ((unhide HB).trans (hb.mono (unhide HB).size))
  clear hb
  go_wp2_with fail
  refine (t4 ▸ nonB_any a.v _).mono ?_
  rintro e w4 ⟨rfl, hb⟩
  obtain ⟨hc4, hf4⟩ := bcell hb
  have hz4 := hb.size
  try simp at hz4
  have y4 : w.heap.size < w4.heap.size := by omega
  have HB := hide ((unhide HB).trans (hb.mono (unhide HB).size))
  clear hb
  go_wp2_with fail
  go_ret
  exact ⟨by rw [unhide HT]; rfl, unhide HB⟩

set_option maxRecDepth 100000 in
set_option maxHeartbeats 2000000 in
theorem bare2 (a : Ac) (w : World) :
    Calls Tryz.prog 43 #[AcV a, .bool true, .bool false, .bool false, .bool true, .bool true] w fun e w' => e = .returned (.bool (bareB a true false false true true)) ∧ Below w.heap.size w w' := by
  have hb0 : Below w.heap.size w (w.alloc (.cells #[.int .i64 a.op, .int .i64 a.t, .int .i64 a.site, .int .i64 a.n, .int .i64 a.k.kind, .int .i64 a.k.num, .float .f64 a.k.flt, .string a.k.str, .int .i64 a.k.ref, .int .i64 a.v.kind, .int .i64 a.v.num, .float .f64 a.v.flt, .string a.v.str, .int .i64 a.v.ref] 48)) := (Below.refl _ _).alloc (Nat.le_refl _) _
  have HB := hide hb0
  clear hb0
  cases t1 : (a.site == 0)
  case false =>
    have HT : Hid (bareB a true false false true true = false) := hide (by unfold bareB; simp [t1])
    go_enter Tryz.func43, Tryz.ntmps43
    go_wp2
    go_ret
    exact ⟨by rw [unhide HT]; rfl, unhide HB⟩
  cases t2 : (a.n == 0)
  case false =>
    have HT : Hid (bareB a true false false true true = false) := hide (by unfold bareB; simp [t1, t2])
    go_enter Tryz.func43, Tryz.ntmps43
    go_wp2
    go_ret
    exact ⟨by rw [unhide HT]; rfl, unhide HB⟩
  have HT : Hid (bareB a true false false true true = true) := hide (by unfold bareB; simp [t1, t2])
  go_enter Tryz.func43, Tryz.ntmps43
  go_wp2
  go_ret
  exact ⟨by rw [unhide HT]; rfl, unhide HB⟩

set_option maxRecDepth 100000 in
set_option maxHeartbeats 2000000 in
theorem bare3 (a : Ac) (w : World) :
    Calls Tryz.prog 43 #[AcV a, .bool true, .bool false, .bool false, .bool true, .bool false] w fun e w' => e = .returned (.bool (bareB a true false false true false)) ∧ Below w.heap.size w w' := by
  have hb0 : Below w.heap.size w (w.alloc (.cells #[.int .i64 a.op, .int .i64 a.t, .int .i64 a.site, .int .i64 a.n, .int .i64 a.k.kind, .int .i64 a.k.num, .float .f64 a.k.flt, .string a.k.str, .int .i64 a.k.ref, .int .i64 a.v.kind, .int .i64 a.v.num, .float .f64 a.v.flt, .string a.v.str, .int .i64 a.v.ref] 48)) := (Below.refl _ _).alloc (Nat.le_refl _) _
  have HB := hide hb0
  clear hb0
  cases t1 : (a.site == 0)
  case false =>
    have HT : Hid (bareB a true false false true false = false) := hide (by unfold bareB; simp [t1])
    go_enter Tryz.func43, Tryz.ntmps43
    go_wp2
    go_ret
    exact ⟨by rw [unhide HT]; rfl, unhide HB⟩
  cases t2 : (a.n == 0)
  case false =>
    have HT : Hid (bareB a true false false true false = false) := hide (by unfold bareB; simp [t1, t2])
    go_enter Tryz.func43, Tryz.ntmps43
    go_wp2
    go_ret
    exact ⟨by rw [unhide HT]; rfl, unhide HB⟩
  cases t4 : nonB a.v
  case false =>
    have HT : Hid (bareB a true false false true false = false) := hide (by unfold bareB; simp [t1, t2, t4])
    go_enter Tryz.func43, Tryz.ntmps43
    go_wp2_with fail
    refine (t4 ▸ nonB_any a.v _).mono ?_
    rintro e w4 ⟨rfl, hb⟩
    obtain ⟨hc4, hf4⟩ := bcell hb
    have hz4 := hb.size
    try simp at hz4
    have y4 : w.heap.size < w4.heap.size := by omega
    have HB := hide ((unhide HB).trans (hb.mono (unhide HB).size))
    clear hb
    go_wp2_with fail
    go_ret
    exact ⟨by rw [unhide HT]; rfl, unhide HB⟩
  have HT : Hid (bareB a true false false true false = true) := hide (by unfold bareB; simp [t1, t2, t4])
  go_enter Tryz.func43, Tryz.ntmps43
  go_wp2_with fail
  refine (t4 ▸ nonB_any a.v _).mono ?_
  rintro e w4 ⟨rfl, hb⟩
  obtain ⟨hc4, hf4⟩ := bcell hb
  have hz4 := hb.size
  try simp at hz4
  have y4 : w.heap.size < w4.heap.size := by omega
  have HB := hide ((unhide HB).trans (hb.mono (unhide HB).size))
  clear hb
  go_wp2_with fail
  go_ret
  exact ⟨by rw [unhide HT]; rfl, unhide HB⟩

set_option maxRecDepth 100000 in
set_option maxHeartbeats 2000000 in
theorem bare4 (a : Ac) (w : World) :
    Calls Tryz.prog 43 #[AcV a, .bool true, .bool false, .bool true, .bool false, .bool false] w fun e w' => e = .returned (.bool (bareB a true false true false false)) ∧ Below w.heap.size w w' := by
  have hb0 : Below w.heap.size w (w.alloc (.cells #[.int .i64 a.op, .int .i64 a.t, .int .i64 a.site, .int .i64 a.n, .int .i64 a.k.kind, .int .i64 a.k.num, .float .f64 a.k.flt, .string a.k.str, .int .i64 a.k.ref, .int .i64 a.v.kind, .int .i64 a.v.num, .float .f64 a.v.flt, .string a.v.str, .int .i64 a.v.ref] 48)) := (Below.refl _ _).alloc (Nat.le_refl _) _
  have HB := hide hb0
  clear hb0
  cases t1 : (a.site == 0)
  case false =>
    have HT : Hid (bareB a true false true false false = false) := hide (by unfold bareB; simp [t1])
    go_enter Tryz.func43, Tryz.ntmps43
    go_wp2
    go_ret
    exact ⟨by rw [unhide HT]; rfl, unhide HB⟩
  cases t3 : nonB a.k
  case false =>
    have HT : Hid (bareB a true false true false false = false) := hide (by unfold bareB; simp [t1, t3])
    go_enter Tryz.func43, Tryz.ntmps43
    go_wp2_with fail
    refine (t3 ▸ nonB_any a.k _).mono ?_
    rintro e w3 ⟨rfl, hb⟩
    obtain ⟨hc3, hf3⟩ := bcell hb
    have hz3 := hb.size
    try simp at hz3
    have y3 : w.heap.size < w3.heap.size := by omega
    have HB := hide ((unhide HB).trans (hb.mono (unhide HB).size))
    clear hb
    go_wp2_with fail
    go_ret
    exact ⟨by rw [unhide HT]; rfl, unhide HB⟩
  cases t4 : nonB a.v
  case false =>
    have HT : Hid (bareB a true false true false false = false) := hide (by unfold bareB; simp [t1, t3, t4])
    go_enter Tryz.func43, Tryz.ntmps43
    go_wp2_with fail
    refine (t3 ▸ nonB_any a.k _).mono ?_
    rintro e w3 ⟨rfl, hb⟩
    obtain ⟨hc3, hf3⟩ := bcell hb
    have hz3 := hb.size
    try simp at hz3
    have y3 : w.heap.size < w3.heap.size := by omega
    have HB := hide ((unhide HB).trans (hb.mono (unhide HB).size))
    clear hb
    go_wp2_with fail
    refine (t4 ▸ nonB_any a.v _).mono ?_
    rintro e w4 ⟨rfl, hb⟩
    obtain ⟨hc4, hf4⟩ := bcell hb
    have hz4 := hb.size
    try simp at hz4
    have y4 : w.heap.size < w4.heap.size := by omega
    have HB := hide ((unhide HB).trans (hb.mono (unhide HB).size))
    clear hb
    go_wp2_with fail
    go_ret
    exact ⟨by rw [unhide HT]; rfl, unhide HB⟩
  have HT : Hid (bareB a true false true false false = true) := hide (by unfold bareB; simp [t1, t3, t4])
  go_enter Tryz.func43, Tryz.ntmps43
  go_wp2_with fail
  refine (t3 ▸ nonB_any a.k _).mono ?_
  rintro e w3 ⟨rfl, hb⟩
  obtain ⟨hc3, hf3⟩ := bcell hb
  have hz3 := hb.size
  try simp at hz3
  have y3 : w.heap.size < w3.heap.size := by omega
  have HB := hide ((unhide HB).trans (hb.mono (unhide HB).size))
  clear hb
  go_wp2_with fail
  refine (t4 ▸ nonB_any a.v _).mono ?_
  rintro e w4 ⟨rfl, hb⟩
  obtain ⟨hc4, hf4⟩ := bcell hb
  have hz4 := hb.size
  try simp at hz4
  have y4 : w.heap.size < w4.heap.size := by omega
  have HB := hide ((unhide HB).trans (hb.mono (unhide HB).size))
  clear hb
  go_wp2_with fail
  go_ret
  exact ⟨by rw [unhide HT]; rfl, unhide HB⟩

set_option maxRecDepth 100000 in
set_option maxHeartbeats 2000000 in
theorem bare5 (a : Ac) (w : World) :
    Calls Tryz.prog 43 #[AcV a, .bool true, .bool false, .bool false, .bool false, .bool false] w fun e w' => e = .returned (.bool (bareB a true false false false false)) ∧ Below w.heap.size w w' := by
  have hb0 : Below w.heap.size w (w.alloc (.cells #[.int .i64 a.op, .int .i64 a.t, .int .i64 a.site, .int .i64 a.n, .int .i64 a.k.kind, .int .i64 a.k.num, .float .f64 a.k.flt, .string a.k.str, .int .i64 a.k.ref, .int .i64 a.v.kind, .int .i64 a.v.num, .float .f64 a.v.flt, .string a.v.str, .int .i64 a.v.ref] 48)) := (Below.refl _ _).alloc (Nat.le_refl _) _
  have HB := hide hb0
  clear hb0
  cases t1 : (a.site == 0)
  case false =>
    have HT : Hid (bareB a true false false false false = false) := hide (by unfold bareB; simp [t1])
    go_enter Tryz.func43, Tryz.ntmps43
    go_wp2
    go_ret
    exact ⟨by rw [unhide HT]; rfl, unhide HB⟩
  cases t2 : (a.n == 0)
  case false =>
    have HT : Hid (bareB a true false false false false = false) := hide (by unfold bareB; simp [t1, t2])
    go_enter Tryz.func43, Tryz.ntmps43
    go_wp2
    go_ret
    exact ⟨by rw [unhide HT]; rfl, unhide HB⟩
  cases t3 : nonB a.k
  case false =>
    have HT : Hid (bareB a true false false false false = false) := hide (by unfold bareB; simp [t1, t2, t3])
    go_enter Tryz.func43, Tryz.ntmps43
    go_wp2_with fail
    refine (t3 ▸ nonB_any a.k _).mono ?_
    rintro e w3 ⟨rfl, hb⟩
    obtain ⟨hc3, hf3⟩ := bcell hb
    have hz3 := hb.size
    try simp at hz3
    have y3 : w.heap.size < w3.heap.size := by omega
    have HB := hide ((unhide HB).trans (hb.mono (unhide HB).size))
    clear hb
    go_wp2_with fail
    go_ret
    exact ⟨by rw [unhide HT]; rfl, unhide HB⟩
  cases t4 : nonB a.v
  case false =>
    have HT : Hid (bareB a true false false false false = false) := hide (by unfold bareB; simp [t1, t2, t3, t4])
    go_enter Tryz.func43, Tryz.ntmps43
    go_wp2_with fail
    refine (t3 ▸ nonB_any a.k _).mono ?_
    rintro e w3 ⟨rfl, hb⟩
    obtain ⟨hc3, hf3⟩ := bcell hb
    have hz3 := hb.size
    try simp at hz3
    have y3 : w.heap.size < w3.heap.size := by omega
    have HB := hide ((unhide HB).trans (hb.mono (unhide HB).size))
    clear hb
    go_wp2_with fail
    refine (t4 ▸ nonB_any a.v _).mono ?_
    rintro e w4 ⟨rfl, hb⟩
    obtain ⟨hc4, hf4⟩ := bcell hb
    have hz4 := hb.size
    try simp at hz4
    have y4 : w.heap.size < w4.heap.size := by omega
    have HB := hide ((unhide HB).trans (hb.mono (unhide HB).size))
    clear hb
    go_wp2_with fail
    go_ret
    exact ⟨by rw [unhide HT]; rfl, unhide HB⟩
  have HT : Hid (bareB a true false false false false = true) := hide (by unfold bareB; simp [t1, t2, t3, t4])
  go_enter Tryz.func43, Tryz.ntmps43
  go_wp2_with fail
  refine (t3 ▸ nonB_any a.k _).mono ?_
  rintro e w3 ⟨rfl, hb⟩
  obtain ⟨hc3, hf3⟩ := bcell hb
  have hz3 := hb.size
  try simp at hz3
  have y3 : w.heap.size < w3.heap.size := by omega
  have HB := hide ((unhide HB).trans (hb.mono (unhide HB).size))
  clear hb
  go_wp2_with fail
  refine (t4 ▸ nonB_any a.v _).mono ?_
  rintro e w4 ⟨rfl, hb⟩
  obtain ⟨hc4, hf4⟩ := bcell hb
  have hz4 := hb.size
  try simp at hz4
  have y4 : w.heap.size < w4.heap.size := by omega
  have HB := hide ((unhide HB).trans (hb.mono (unhide HB).size))
  clear hb
  go_wp2_with fail
  go_ret
  exact ⟨by rw [unhide HT]; rfl, unhide HB⟩

set_option maxRecDepth 100000 in
set_option maxHeartbeats 2000000 in
theorem bare7 (a : Ac) (w : World) :
    Calls Tryz.prog 43 #[AcV a, .bool false, .bool false, .bool false, .bool true, .bool false] w fun e w' => e = .returned (.bool (bareB a false false false true false)) ∧ Below w.heap.size w w' := by
  have hb0 : Below w.heap.size w (w.alloc (.cells #[.int .i64 a.op, .int .i64 a.t, .int .i64 a.site, .int .i64 a.n, .int .i64 a.k.kind, .int .i64 a.k.num, .float .f64 a.k.flt, .string a.k.str, .int .i64 a.k.ref, .int .i64 a.v.kind, .int .i64 a.v.num, .float .f64 a.v.flt, .string a.v.str, .int .i64 a.v.ref] 48)) := (Below.refl _ _).alloc (Nat.le_refl _) _
  have HB := hide hb0
  clear hb0
  cases t0 : (a.t == 0)
  case false =>
    have HT : Hid (bareB a false false false true false = false) := hide (by unfold bareB; simp [t0])
    go_enter Tryz.func43, Tryz.ntmps43
    go_wp2
    go_ret
    exact ⟨by rw [unhide HT]; rfl, unhide HB⟩
  cases t1 : (a.site == 0)
  case false =>
    have HT : Hid (bareB a false false false true false = false) := hide (by unfold bareB; simp [t0, t1])
    go_enter Tryz.func43, Tryz.ntmps43
    go_wp2
    go_ret
    exact ⟨by rw [unhide HT]; rfl, unhide HB⟩
  cases t2 : (a.n == 0)
  case false =>
    have HT : Hid (bareB a false false false true false = false) := hide (by unfold bareB; simp [t0, t1, t2])
    go_enter Tryz.func43, Tryz.ntmps43
    go_wp2
    go_ret
    exact ⟨by rw [unhide HT]; rfl, unhide HB⟩
  cases t4 : nonB a.v
  case false =>
    have HT : Hid (bareB a false false false true false = false) := hide (by unfold bareB; simp [t0, t1, t2, t4])
    go_enter Tryz.func43, Tryz.ntmps43
    go_wp2_with fail
    refine (t4 ▸ nonB_any a.v _).mono ?_
    rintro e w4 ⟨rfl, hb⟩
    obtain ⟨hc4, hf4⟩ := bcell hb
    have hz4 := hb.size
    try simp at hz4
    have y4 : w.heap.size < w4.heap.size := by omega
    have HB := hide ((unhide HB).trans (hb.mono (unhide HB).size))
    clear hb
    go_wp2_with fail
    go_ret
    exact ⟨by rw [unhide HT]; rfl, unhide HB⟩
  have HT : Hid (bareB a false false false true false = true) := hide (by unfold bareB; simp [t0, t1, t2, t4])
  go_enter Tryz.func43, Tryz.ntmps43
  go_wp2_with fail
  refine (t4 ▸ nonB_any a.v _).mono ?_
  rintro e w4 ⟨rfl, hb⟩
  obtain ⟨hc4, hf4⟩ := bcell hb
  have hz4 := hb.size
  try simp at hz4
  have y4 : w.heap.size < w4.heap.size := by omega
  have HB := hide ((unhide HB).trans (hb.mono (unhide HB).size))
  clear hb
  go_wp2_with fail
  go_ret
  exact ⟨by rw [unhide HT]; rfl, unhide HB⟩

set_option maxRecDepth 100000 in
set_option maxHeartbeats 2000000 in
theorem bare8 (a : Ac) (w : World) :
    Calls Tryz.prog 43 #[AcV a, .bool true, .bool true, .bool false, .bool false, .bool false] w fun e w' => e = .returned (.bool (bareB a true true false false false)) ∧ Below w.heap.size w w' := by
  have hb0 : Below w.heap.size w (w.alloc (.cells #[.int .i64 a.op, .int .i64 a.t, .int .i64 a.site, .int .i64 a.n, .int .i64 a.k.kind, .int .i64 a.k.num, .float .f64 a.k.flt, .string a.k.str, .int .i64 a.k.ref, .int .i64 a.v.kind, .int .i64 a.v.num, .float .f64 a.v.flt, .string a.v.str, .int .i64 a.v.ref] 48)) := (Below.refl _ _).alloc (Nat.le_refl _) _
  have HB := hide hb0
  clear hb0
  cases t2 : (a.n == 0)
  case false =>
    have HT : Hid (bareB a true true false false false = false) := hide (by unfold bareB; simp [t2])
    go_enter Tryz.func43, Tryz.ntmps43
    go_wp2
    go_ret
    exact ⟨by rw [unhide HT]; rfl, unhide HB⟩
  cases t3 : nonB a.k
  case false =>
    have HT : Hid (bareB a true true false false false = false) := hide (by unfold bareB; simp [t2, t3])
    go_enter Tryz.func43, Tryz.ntmps43
    go_wp2_with fail
    refine (t3 ▸ nonB_any a.k _).mono ?_
    rintro e w3 ⟨rfl, hb⟩
    obtain ⟨hc3, hf3⟩ := bcell hb
    have hz3 := hb.size
    try simp at hz3
    have y3 : w.heap.size < w3.heap.size := by omega
    have HB := hide ((unhide HB).trans (hb.mono (unhide HB).size))
    clear hb
    go_wp2_with fail
    go_ret
    exact ⟨by rw [unhide HT]; rfl, unhide HB⟩
  cases t4 : nonB a.v
  case false =>
    have HT : Hid (bareB a true true false false false = false) := hide (by unfold bareB; simp [t2, t3, t4])
    go_enter Tryz.func43, Tryz.ntmps43
    go_wp2_with fail
    refine (t3 ▸ nonB_any a.k _).mono ?_
    rintro e w3 ⟨rfl, hb⟩
    obtain ⟨hc3, hf3⟩ := bcell hb
    have hz3 := hb.size
    try simp at hz3
    have y3 : w.heap.size < w3.heap.size := by omega
    have HB := hide ((unhide HB).trans (hb.mono (unhide HB).size))
    clear hb
    go_wp2_with fail
    refine (t4 ▸ nonB_any a.v _).mono ?_
    rintro e w4 ⟨rfl, hb⟩
    obtain ⟨hc4, hf4⟩ := bcell hb
    have hz4 := hb.size
    try simp at hz4
    have y4 : w.heap.size < w4.heap.size := by omega
    have HB := hide ((unhide HB).trans (hb.mono (unhide HB).size))
    clear hb
    go_wp2_with fail
    go_ret
    exact ⟨by rw [unhide HT]; rfl, unhide HB⟩
  have HT : Hid (bareB a true true false false false = true) := hide (by unfold bareB; simp [t2, t3, t4])
  go_enter Tryz.func43, Tryz.ntmps43
  go_wp2_with fail
  refine (t3 ▸ nonB_any a.k _).mono ?_
  rintro e w3 ⟨rfl, hb⟩
  obtain ⟨hc3, hf3⟩ := bcell hb
  have hz3 := hb.size
  try simp at hz3
  have y3 : w.heap.size < w3.heap.size := by omega
  have HB := hide ((unhide HB).trans (hb.mono (unhide HB).size))
  clear hb
  go_wp2_with fail
  refine (t4 ▸ nonB_any a.v _).mono ?_
  rintro e w4 ⟨rfl, hb⟩
  obtain ⟨hc4, hf4⟩ := bcell hb
  have hz4 := hb.size
  try simp at hz4
  have y4 : w.heap.size < w4.heap.size := by omega
  have HB := hide ((unhide HB).trans (hb.mono (unhide HB).size))
  clear hb
  go_wp2_with fail
  go_ret
  exact ⟨by rw [unhide HT]; rfl, unhide HB⟩

set_option maxRecDepth 100000 in
set_option maxHeartbeats 2000000 in
theorem bare9 (a : Ac) (w : World) :
    Calls Tryz.prog 43 #[AcV a, .bool true, .bool true, .bool false, .bool false, .bool true] w fun e w' => e = .returned (.bool (bareB a true true false false true)) ∧ Below w.heap.size w w' := by
  have hb0 : Below w.heap.size w (w.alloc (.cells #[.int .i64 a.op, .int .i64 a.t, .int .i64 a.site, .int .i64 a.n, .int .i64 a.k.kind, .int .i64 a.k.num, .float .f64 a.k.flt, .string a.k.str, .int .i64 a.k.ref, .int .i64 a.v.kind, .int .i64 a.v.num, .float .f64 a.v.flt, .string a.v.str, .int .i64 a.v.ref] 48)) := (Below.refl _ _).alloc (Nat.le_refl _) _
  have HB := hide hb0
  clear hb0
  cases t2 : (a.n == 0)
  case false =>
    have HT : Hid (bareB a true true false false true = false) := hide (by unfold bareB; simp [t2])
    go_enter Tryz.func43, Tryz.ntmps43
    go_wp2
    go_ret
    exact ⟨by rw [unhide HT]; rfl, unhide HB⟩
  cases t3 : nonB a.k
  case false =>
    have HT : Hid (bareB a true true false false true = false) := hide (by unfold bareB; simp [t2, t3])
    go_enter Tryz.func43, Tryz.ntmps43
    go_wp2_with fail
    refine (t3 ▸ nonB_any a.k _).mono ?_
    rintro e w3 ⟨rfl, hb⟩
    obtain ⟨hc3, hf3⟩ := bcell hb
    have hz3 := hb.size
    try simp at hz3
    have y3 : w.heap.size < w3.heap.size := by omega
    have HB := hide ((unhide HB).trans (hb.mono (unhide HB).size))
    clear hb
    go_wp2_with fail
    go_ret
    exact ⟨by rw [unhide HT]; rfl, unhide HB⟩
  have HT : Hid (bareB a true true false false true = true) := hide (by unfold bareB; simp [t2, t3])
  go_enter Tryz.func43, Tryz.ntmps43
  go_wp2_with fail
  refine (t3 ▸ nonB_any a.k _).mono ?_
  rintro e w3 ⟨rfl, hb⟩
  obtain ⟨hc3, hf3⟩ := bcell hb
  have hz3 := hb.size
  try simp at hz3
  have y3 : w.heap.size < w3.heap.size := by omega
  have HB := hide ((unhide HB).trans (hb.mono (unhide HB).size))
  clear hb
  go_wp2_with fail
  go_ret
  exact ⟨by rw [unhide HT]; rfl, unhide HB⟩

end Go.Proofs.YtnjgebncghdajaaGreatDoor
