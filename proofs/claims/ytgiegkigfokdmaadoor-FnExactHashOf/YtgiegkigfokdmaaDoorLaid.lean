/-
  What the rows list of the library's tables; a world that holds them, for the witness.
-/
import Derived.Test.YtgiegkigfokdmaaDoorHashC
import Derived.Test.YtgiegkigfokdmaaDoorRows
import Derived.Test.YtgiegkigfokdmaaDoorOpen
import Derived.ProofKit
import Derived.OpenShut
import Derived.Deep.DeepHandedRow
import Derived.Lib.LaidTab
import Derived.LaidSub
namespace Go.Proofs.YtgiegkigfokdmaaDoor
open Go.ChangeShapes Go.WideShapes Go.ChangeAt Go.RowKit
set_option linter.unusedVariables false

theorem own : ownKnob Tryd.prog.godebug = none := by kernel_rfl
theorem laidOut : laidOutB Tryd.prog = true := by kernel_rfl

theorem fsL : Fs Tryd.prog 44 3 2 30 9 :=
  ⟨⟨_, _, _, _, _, Tryd.underlying44, rfl, rfl, rfl, rfl, rfl, rfl, rfl, rfl, rfl, rfl⟩, by kernel_rfl, by kernel_rfl, by kernel_rfl, by kernel_rfl, by kernel_rfl, Tryd.underlying3, Tryd.underlying2, Tryd.underlying30, Tryd.underlying9⟩

theorem flt_lt {b : Nat} (h : (Lit.float .f64 b).wf = true) : b < 18446744073709551616 := by
  simpa [Lit.wf] using h

/-- The three tables, as the rows list them. -/
def laid3 : List (String × DataW Unit) := [("math/bits.deBruijn32tab", Rows.laid_math_bits_deBruijn32tab), ("math/bits.deBruijn64tab", Rows.laid_math_bits_deBruijn64tab), ("internal/strconv.uint64pow10", Rows.laid_internal_strconv_uint64pow10)]

def tab32 : List Nat := [0, 1, 28, 2, 29, 14, 24, 3, 30, 22, 20, 15, 25, 17, 4, 8, 31, 27, 13, 23, 21, 19, 16, 7, 26, 12, 18, 6, 11, 5, 10, 9]

def setTab (cs : Array Value) : Obj → Obj
  | .cells _ t frozen => .cells cs t frozen
  | o => o
def withTabs (w : World) : World :=
  { w with heap := ((w.heap.modify 3 (setTab (tab32.map fun n : Nat => Value.int .u8 (n : Int)).toArray)).modify 1 (setTab (Lib.deBruijn64tab.map fun n : Nat => Value.int .u8 (n : Int)).toArray)).modify 2 (setTab (Lib.pow10Tab.map fun n => Value.int .u64 n).toArray) }

theorem one64 {W : World} (h : laidMetH Tryd.prog laid3 W) : Lib.TabIs Tryd.prog W "math/bits.deBruijn64tab" .u8 (Lib.deBruijn64tab.map fun n : Nat => (n : Int)) := by
  have h1 := laidMetH.filter (fun x => x.1 == "math/bits.deBruijn64tab") h
  have e : (laid3.filter fun x => x.1 == "math/bits.deBruijn64tab") = [("math/bits.deBruijn64tab", Lib.tabData .u8 (Lib.deBruijn64tab.map fun n : Nat => (n : Int)))] := by kernel_rfl
  rw [e] at h1
  exact Lib.tabIs_of_head (rest := []) (g := 1) (by kernel_rfl) (t := 123) (by kernel_rfl) Tryd.underlying123 Tryd.underlying5 (by kernel_rfl) (by kernel_rfl) h1

theorem one10 {W : World} (h : laidMetH Tryd.prog laid3 W) : Lib.TabIs Tryd.prog W "internal/strconv.uint64pow10" .u64 Lib.pow10Tab := by
  have h1 := laidMetH.filter (fun x => x.1 == "internal/strconv.uint64pow10") h
  have e : (laid3.filter fun x => x.1 == "internal/strconv.uint64pow10") = [("internal/strconv.uint64pow10", Lib.tabData .u64 Lib.pow10Tab)] := by kernel_rfl
  rw [e] at h1
  exact Lib.tabIs_of_head (rest := []) (g := 2) (by kernel_rfl) (t := 129) (by kernel_rfl) Tryd.underlying129 Tryd.underlying66 (by kernel_rfl) (by kernel_rfl) h1

theorem g64 : Tryd.prog.globalNamed "math/bits.deBruijn64tab" = some 1 := by kernel_rfl
theorem g10 : Tryd.prog.globalNamed "internal/strconv.uint64pow10" = some 2 := by kernel_rfl
theorem g32 : Tryd.prog.globalNamed "math/bits.deBruijn32tab" = some 3 := by kernel_rfl

theorem one32 {W : World} (h : laidMetH Tryd.prog laid3 W) : Lib.TabIs Tryd.prog W "math/bits.deBruijn32tab" .u8 (tab32.map fun n : Nat => (n : Int)) := by
  have h1 := laidMetH.filter (fun x => x.1 == "math/bits.deBruijn32tab") h
  have e : (laid3.filter fun x => x.1 == "math/bits.deBruijn32tab") = [("math/bits.deBruijn32tab", Lib.tabData .u8 (tab32.map fun n : Nat => (n : Int)))] := by kernel_rfl
  rw [e] at h1
  exact Lib.tabIs_of_head (rest := []) (g := 3) (by kernel_rfl) (t := 131) (by kernel_rfl) Tryd.underlying131 Tryd.underlying5 (by kernel_rfl) (by kernel_rfl) h1

/-- What the rows' list gives the walks. -/
theorem tabs_of {W : World} (h : laidMetH Tryd.prog laid3 W) : Tabs W := by
  have h64 := one64 h
  have h32 := one32 h
  refine ⟨?_, one10 h, ?_⟩
  · intro j hj
    have := h64.cell g64 j (by simpa using hj)
    rw [this]
    simp [List.getD, hj]
  · have c1 := World.block_lt_of_cell? _ _ (h32.cell g32 0 (by decide))
    have c2 := World.block_lt_of_cell? _ _ (h64.cell g64 0 (by decide))
    have c3 := World.block_lt_of_cell? _ _ ((one10 h).cell g10 0 (by decide))
    simp only at c1 c2 c3
    omega
end Go.Proofs.YtgiegkigfokdmaaDoor
