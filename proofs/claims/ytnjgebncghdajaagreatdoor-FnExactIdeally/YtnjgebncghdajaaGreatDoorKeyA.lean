/-
  KeyOf, of the program and of the model: what each call of the road returns.
-/
import Derived.Test.YtnjgebncghdajaaGreatDoorChecked
import GoSem.Claim
import GoSem.ClaimJoined
import GoSem.ClaimMapViews
import Derived.JoinedTies
import Derived.KernelRfl
import Derived.RowKit
import Derived.Test.YtnjgebncghdajaaGreatDoorFlt
import Derived.WalkKit
import Derived.WalkSpells
import Derived.WalkLawsBesides
namespace Go.Proofs.YtnjgebncghdajaaGreatDoor
open Go.RowKit

theorem run_store_float {P : Program} {w : World} {a : Addr} {m : Mode} (k : FloatKind) (n : Nat) : (store a (.float k n) m).run P w = stored P w a (.float k n) m := run_store P w a _ m rfl
theorem run_equalIn_float {P : Program} {w : World} (d : Nat) (t : TypeId) (k k' : FloatKind) (a b : Nat) (h : P.underlying t = some (.float k')) : (Op.equalIn (d + 1) t (.float k a) (.float k b)).run P w = .ok (k.format.order a b == some .eq) w := by
  simp [Op.equalIn, run_underlying h, Op.floatEq]
attribute [local go_sem] run_store_float run_equalIn_float

/-- A Value of the program, as the walk shows it. -/
abbrev V (kind num : Int) (flt : Nat) (s : ByteArray) (ref : Int) : Value := .agg #[.int .i64 kind, .int .i64 num, .float .f64 flt, .string s, .int .i64 ref]
/-- A Keyed. -/
abbrev KV (code kind num : Int) (flt : Nat) (s : ByteArray) (ref : Int) : Value := .agg #[.int .i64 code, .int .i64 kind, .int .i64 num, .float .f64 flt, .string s, .int .i64 ref]

def fz (f : Nat) : Bool := FloatKind.f64.format.order f 0 == some .eq
def fnan (f : Nat) : Bool := FloatKind.f64.format.order f f != some .eq

def validB (kind num : Int) (flt : Nat) (s : ByteArray) (ref : Int) : Bool :=
  if kind = 0 then num == 0 && fz flt && s.toList.isEmpty && ref == 0
  else if kind = 1 then (fz flt && s.toList.isEmpty && ref == 0) && (num == 0 || num == 1)
  else if kind = 2 then (fz flt && s.toList.isEmpty && ref == 0)
  else if kind = 3 then (num == 0 && s.toList.isEmpty && ref == 0)
  else if kind = 4 then (num == 0 && fz flt && ref == 0) && decide ((s.size : Int) ≤ 4000)
  else if kind = 5 then (num == 0 && fz flt && s.toList.isEmpty) && decide (0 ≤ ref)
  else if kind = 6 then (num == 0 && fz flt && s.toList.isEmpty) && decide (0 ≤ ref)
  else if kind = 7 then (num == 0 && fz flt && s.toList.isEmpty) && decide (0 ≤ ref)
  else if kind = 8 then (fz flt && s.toList.isEmpty && ref == 0) && decide (0 ≤ num) && decide (num < 15)
  else false

structure Vl where
  kind : Int
  num : Int
  flt : Nat
  str : ByteArray
  ref : Int
instance : Inhabited Vl := ⟨⟨0, 0, 0, ⟨#[]⟩, 0⟩⟩
def Vl.ok (x : Vl) : Bool := validB x.kind x.num x.flt x.str x.ref

set_option maxHeartbeats 4000000 in
theorem valueOk_any (kind num : Int) (flt : Nat) (s : ByteArray) (ref : Int) (w : World)  :
    Calls Tryz.prog 42 #[V kind num flt s ref] w fun e w' => e = .returned (.bool (validB kind num flt s ref)) ∧ Below w.heap.size w w' := by
  by_cases k0 : kind = 0
  · subst k0
    go_enter Tryz.func42, Tryz.ntmps42
    go_wp2
    all_goals
      go_ret
      refine ⟨?_, ?_⟩
      · simp_all [validB, fz]
      · exact ((Below.refl _ _).alloc (Nat.le_refl _) _).alloc (by simp) _
  by_cases k1 : kind = 1
  · subst k1
    go_enter Tryz.func42, Tryz.ntmps42
    go_wp2
    all_goals
      go_ret
      refine ⟨?_, ?_⟩
      · simp_all [validB, fz]
      · exact ((Below.refl _ _).alloc (Nat.le_refl _) _).alloc (by simp) _
  by_cases k2 : kind = 2
  · subst k2
    go_enter Tryz.func42, Tryz.ntmps42
    go_wp2
    all_goals
      go_ret
      refine ⟨?_, ?_⟩
      · simp_all [validB, fz]
      · exact ((Below.refl _ _).alloc (Nat.le_refl _) _).alloc (by simp) _
  by_cases k3 : kind = 3
  · subst k3
    go_enter Tryz.func42, Tryz.ntmps42
    go_wp2
    all_goals
      go_ret
      refine ⟨?_, ?_⟩
      · simp_all [validB]
      · exact ((Below.refl _ _).alloc (Nat.le_refl _) _).alloc (by simp) _
  by_cases k4 : kind = 4
  · subst k4
    go_enter Tryz.func42, Tryz.ntmps42
    go_wp2
    all_goals
      go_ret
      refine ⟨?_, ?_⟩
      · simp_all [validB, fz]
      · exact ((Below.refl _ _).alloc (Nat.le_refl _) _).alloc (by simp) _
  by_cases k5 : kind = 5
  · subst k5
    go_enter Tryz.func42, Tryz.ntmps42
    go_wp2
    all_goals
      go_ret
      refine ⟨?_, ?_⟩
      · simp_all [validB, fz]
      · exact ((Below.refl _ _).alloc (Nat.le_refl _) _).alloc (by simp) _
  by_cases k6 : kind = 6
  · subst k6
    go_enter Tryz.func42, Tryz.ntmps42
    go_wp2
    all_goals
      go_ret
      refine ⟨?_, ?_⟩
      · simp_all [validB, fz]
      · exact ((Below.refl _ _).alloc (Nat.le_refl _) _).alloc (by simp) _
  by_cases k7 : kind = 7
  · subst k7
    go_enter Tryz.func42, Tryz.ntmps42
    go_wp2
    all_goals
      go_ret
      refine ⟨?_, ?_⟩
      · simp_all [validB, fz]
      · exact ((Below.refl _ _).alloc (Nat.le_refl _) _).alloc (by simp) _
  by_cases k8 : kind = 8
  · subst k8
    go_enter Tryz.func42, Tryz.ntmps42
    go_wp2
    all_goals
      go_ret
      refine ⟨?_, ?_⟩
      · simp_all [validB, fz]
        try (intros; omega)
      · exact ((Below.refl _ _).alloc (Nat.le_refl _) _).alloc (by simp) _
  have b0 : (kind == 0) = false := by simp [k0]
  have b1 : (kind == 1) = false := by simp [k1]
  have b2 : (kind == 2) = false := by simp [k2]
  have b3 : (kind == 3) = false := by simp [k3]
  have b4 : (kind == 4) = false := by simp [k4]
  have b5 : (kind == 5) = false := by simp [k5]
  have b6 : (kind == 6) = false := by simp [k6]
  have b7 : (kind == 7) = false := by simp [k7]
  have b8 : (kind == 8) = false := by simp [k8]
  go_enter Tryz.func42, Tryz.ntmps42
  go_wp2
  all_goals
    go_ret
    refine ⟨?_, ?_⟩
    · simp_all [validB]
    · exact (Below.refl _ _).alloc (Nat.le_refl _) _
set_option maxHeartbeats 4000000 in
theorem isValid_any (kind num : Int) (flt : Nat) (s : ByteArray) (ref : Int) (w : World)  :
    Calls Tryz.prog 88 #[V kind num flt s ref] w fun e w' => e = .returned (.bool (validB kind num flt s ref)) ∧ Below w.heap.size w w' := by
  by_cases k0 : kind = 0
  · subst k0
    go_enter Tryz.func88, Tryz.ntmps88
    go_wp2
    all_goals
      go_ret
      refine ⟨?_, ?_⟩
      · simp_all [validB, fz]
      · exact ((Below.refl _ _).alloc (Nat.le_refl _) _).alloc (by simp) _
  by_cases k1 : kind = 1
  · subst k1
    go_enter Tryz.func88, Tryz.ntmps88
    go_wp2
    all_goals
      go_ret
      refine ⟨?_, ?_⟩
      · simp_all [validB, fz]
      · exact ((Below.refl _ _).alloc (Nat.le_refl _) _).alloc (by simp) _
  by_cases k2 : kind = 2
  · subst k2
    go_enter Tryz.func88, Tryz.ntmps88
    go_wp2
    all_goals
      go_ret
      refine ⟨?_, ?_⟩
      · simp_all [validB, fz]
      · exact ((Below.refl _ _).alloc (Nat.le_refl _) _).alloc (by simp) _
  by_cases k3 : kind = 3
  · subst k3
    go_enter Tryz.func88, Tryz.ntmps88
    go_wp2
    all_goals
      go_ret
      refine ⟨?_, ?_⟩
      · simp_all [validB]
      · exact ((Below.refl _ _).alloc (Nat.le_refl _) _).alloc (by simp) _
  by_cases k4 : kind = 4
  · subst k4
    go_enter Tryz.func88, Tryz.ntmps88
    go_wp2
    all_goals
      go_ret
      refine ⟨?_, ?_⟩
      · simp_all [validB, fz]
      · exact ((Below.refl _ _).alloc (Nat.le_refl _) _).alloc (by simp) _
  by_cases k5 : kind = 5
  · subst k5
    go_enter Tryz.func88, Tryz.ntmps88
    go_wp2
    all_goals
      go_ret
      refine ⟨?_, ?_⟩
      · simp_all [validB, fz]
      · exact ((Below.refl _ _).alloc (Nat.le_refl _) _).alloc (by simp) _
  by_cases k6 : kind = 6
  · subst k6
    go_enter Tryz.func88, Tryz.ntmps88
    go_wp2
    all_goals
      go_ret
      refine ⟨?_, ?_⟩
      · simp_all [validB, fz]
      · exact ((Below.refl _ _).alloc (Nat.le_refl _) _).alloc (by simp) _
  by_cases k7 : kind = 7
  · subst k7
    go_enter Tryz.func88, Tryz.ntmps88
    go_wp2
    all_goals
      go_ret
      refine ⟨?_, ?_⟩
      · simp_all [validB, fz]
      · exact ((Below.refl _ _).alloc (Nat.le_refl _) _).alloc (by simp) _
  by_cases k8 : kind = 8
  · subst k8
    go_enter Tryz.func88, Tryz.ntmps88
    go_wp2
    all_goals
      go_ret
      refine ⟨?_, ?_⟩
      · simp_all [validB, fz]
        try (intros; omega)
      · exact ((Below.refl _ _).alloc (Nat.le_refl _) _).alloc (by simp) _
  have b0 : (kind == 0) = false := by simp [k0]
  have b1 : (kind == 1) = false := by simp [k1]
  have b2 : (kind == 2) = false := by simp [k2]
  have b3 : (kind == 3) = false := by simp [k3]
  have b4 : (kind == 4) = false := by simp [k4]
  have b5 : (kind == 5) = false := by simp [k5]
  have b6 : (kind == 6) = false := by simp [k6]
  have b7 : (kind == 7) = false := by simp [k7]
  have b8 : (kind == 8) = false := by simp [k8]
  go_enter Tryz.func88, Tryz.ntmps88
  go_wp2
  all_goals
    go_ret
    refine ⟨?_, ?_⟩
    · simp_all [validB]
    · exact ((Below.refl _ _).alloc (Nat.le_refl _) _).alloc (by simp) _
end Go.Proofs.YtnjgebncghdajaaGreatDoor
