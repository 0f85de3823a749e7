/-
  NARROWER THAN 'FOR EVERY INPUT', by the rows' own cells (each row's printed sentence says how): FnDict: laid · FnThrough: laid · FnExactDictOk: laid · FnExactDictGet: laid · FnExactDictPut: laid · FnExactDictAfter: laid · FnExactDictLen: laid · FnExactDictPairs: laid.
  DERIVED. THE GIVEN ROWS OF THIS SEAT. 8 by the template 'for every input the law returns true; each argument reads behind the call as it read before'; 0 by the template 'total and deterministic' (their statements: YtglcaejddckleaaGreatDoorTotals.lean).
  GIVEN WITH THE SEED: the statements are not yours to turn. If you find one false, say at which input.
  Laid BY PROGRAM, IN A SANDBOX (cutbox-rows.mjs): the forced cells as the released guide's own fill.sh prints them over the translation fb1acfea498bc7d9… (all of the seat's roots in one cut). By AI agents, Wed Nov 11 2026. No macro, syntax, notation, axiom, sorry.
-/
import Derived.Test.YtglcaejddckleaaGreatDoorChecked
import GoSem.Claim
import GoSem.ClaimJoined
import GoSem.ClaimMapViews
import Derived.JoinedTies
import Derived.KernelRfl
namespace Go.Proofs.YtglcaejddckleaaGreatDoor
/- THE CELL 'sum', in the pinned program and in every row, IS THE sha256 OF THE DUMP (.gsa) THAT YtglcaejddckleaaGreatDoorProg.lean LOADS. Nothing in Lean hashes anything: it is a label: what it is worth is what the hold of that sum in a sandbox is worth. -/
noncomputable def Tryz.pinned : Pinned := { name := "ytglcaejddckleaagreatdoor", sum := "fb1acfea498bc7d9aee64450a0474f39e635ad1e9f5550533bd5ba489c216ab8", checked := Tryz.checked }
namespace Rows
def none {H : Type} : Left H := { results := [], args := [] }

/- WHAT THE LISTED PACKAGE-LEVEL VARIABLES READ AS WHEN THE CALL BEGINS. Each datum BY PROGRAM (the guide's laid-datum.mjs) off the statement by which the dump's own 'gosem.cut.vars' lays the variable. In a bare row this is a premise. The card (YtglcaejddckleaaGreatDoorCards.lean) ties it to the program's text. -/
def laid_math_bits_deBruijn32tab {H : Type} : DataW H := .agg [.lit (.int .u8 0), .lit (.int .u8 1), .lit (.int .u8 28), .lit (.int .u8 2), .lit (.int .u8 29), .lit (.int .u8 14), .lit (.int .u8 24), .lit (.int .u8 3), .lit (.int .u8 30), .lit (.int .u8 22), .lit (.int .u8 20), .lit (.int .u8 15), .lit (.int .u8 25), .lit (.int .u8 17), .lit (.int .u8 4), .lit (.int .u8 8), .lit (.int .u8 31), .lit (.int .u8 27), .lit (.int .u8 13), .lit (.int .u8 23), .lit (.int .u8 21), .lit (.int .u8 19), .lit (.int .u8 16), .lit (.int .u8 7), .lit (.int .u8 26), .lit (.int .u8 12), .lit (.int .u8 18), .lit (.int .u8 6), .lit (.int .u8 11), .lit (.int .u8 5), .lit (.int .u8 10), .lit (.int .u8 9)]
def laid_math_bits_deBruijn64tab {H : Type} : DataW H := .agg [.lit (.int .u8 0), .lit (.int .u8 1), .lit (.int .u8 56), .lit (.int .u8 2), .lit (.int .u8 57), .lit (.int .u8 49), .lit (.int .u8 28), .lit (.int .u8 3), .lit (.int .u8 61), .lit (.int .u8 58), .lit (.int .u8 42), .lit (.int .u8 50), .lit (.int .u8 38), .lit (.int .u8 29), .lit (.int .u8 17), .lit (.int .u8 4), .lit (.int .u8 62), .lit (.int .u8 47), .lit (.int .u8 59), .lit (.int .u8 36), .lit (.int .u8 45), .lit (.int .u8 43), .lit (.int .u8 51), .lit (.int .u8 22), .lit (.int .u8 53), .lit (.int .u8 39), .lit (.int .u8 33), .lit (.int .u8 30), .lit (.int .u8 24), .lit (.int .u8 18), .lit (.int .u8 12), .lit (.int .u8 5), .lit (.int .u8 63), .lit (.int .u8 55), .lit (.int .u8 48), .lit (.int .u8 27), .lit (.int .u8 60), .lit (.int .u8 41), .lit (.int .u8 37), .lit (.int .u8 16), .lit (.int .u8 46), .lit (.int .u8 35), .lit (.int .u8 44), .lit (.int .u8 21), .lit (.int .u8 52), .lit (.int .u8 32), .lit (.int .u8 23), .lit (.int .u8 11), .lit (.int .u8 54), .lit (.int .u8 26), .lit (.int .u8 40), .lit (.int .u8 15), .lit (.int .u8 34), .lit (.int .u8 20), .lit (.int .u8 31), .lit (.int .u8 10), .lit (.int .u8 25), .lit (.int .u8 14), .lit (.int .u8 19), .lit (.int .u8 9), .lit (.int .u8 13), .lit (.int .u8 8), .lit (.int .u8 7), .lit (.int .u8 6)]
def laid_internal_strconv_uint64pow10 {H : Type} : DataW H := .agg [.lit (.int .u64 1), .lit (.int .u64 10), .lit (.int .u64 100), .lit (.int .u64 1000), .lit (.int .u64 10000), .lit (.int .u64 100000), .lit (.int .u64 1000000), .lit (.int .u64 10000000), .lit (.int .u64 100000000), .lit (.int .u64 1000000000), .lit (.int .u64 10000000000), .lit (.int .u64 100000000000), .lit (.int .u64 1000000000000), .lit (.int .u64 10000000000000), .lit (.int .u64 100000000000000), .lit (.int .u64 1000000000000000), .lit (.int .u64 10000000000000000), .lit (.int .u64 100000000000000000), .lit (.int .u64 1000000000000000000), .lit (.int .u64 10000000000000000000)]

/-- 'laws.FnDict': WHATEVER THE INPUT: true; the input reads as it did. -/
def fnDictSpec : ChangeSpec := { name := "fnDict", fn := fun _ => fun
  | [d1, d2] => { results := [.lit (.bool true)], args := [d1, d2] }
  | _ => none }
def fnDictRow : OpenClaim := { program := "ytglcaejddckleaagreatdoor", sum := "fb1acfea498bc7d9aee64450a0474f39e635ad1e9f5550533bd5ba489c216ab8", func := "loop.example/shuttle/laws.FnDict", spec := "fnDict", inPlace := ["math.archTrunc", "math.Float64bits", "math.Float64frombits"], unfollowed := true, recurses := true, named := ["math/bits.deBruijn64tab", "internal/strconv.uint64pow10", "math/bits.deBruijn32tab"], apart := false, laid := [("math/bits.deBruijn32tab", laid_math_bits_deBruijn32tab), ("math/bits.deBruijn64tab", laid_math_bits_deBruijn64tab), ("internal/strconv.uint64pow10", laid_internal_strconv_uint64pow10)] }
def FnDictSaid : Prop := fnDictRow.holds Tryz.pinned (OpenSpec.ofChange fnDictSpec)

/-- ITS FALSE NEIGHBOUR: 'it returns false'. Refute it at one input. -/
def fnDictWrong : ChangeSpec := { name := "fnDict", fn := fun _ => fun
  | [d1, d2] => { results := [.lit (.bool false)], args := [d1, d2] }
  | _ => none }
def FnDictWrongFalsely : Prop := fnDictRow.holds Tryz.pinned (OpenSpec.ofChange fnDictWrong)

/-- 'laws.FnThrough': WHATEVER THE INPUT: true; the input reads as it did. -/
def fnThroughSpec : ChangeSpec := { name := "fnThrough", fn := fun _ => fun
  | [d] => { results := [.lit (.bool true)], args := [d] }
  | _ => none }
def fnThroughRow : OpenClaim := { program := "ytglcaejddckleaagreatdoor", sum := "fb1acfea498bc7d9aee64450a0474f39e635ad1e9f5550533bd5ba489c216ab8", func := "loop.example/shuttle/laws.FnThrough", spec := "fnThrough", inPlace := ["math.archTrunc", "math.Float64bits", "math.Float64frombits"], unfollowed := true, recurses := true, named := ["math/bits.deBruijn64tab", "internal/strconv.uint64pow10", "math/bits.deBruijn32tab"], apart := false, laid := [("math/bits.deBruijn32tab", laid_math_bits_deBruijn32tab), ("math/bits.deBruijn64tab", laid_math_bits_deBruijn64tab), ("internal/strconv.uint64pow10", laid_internal_strconv_uint64pow10)] }
def FnThroughSaid : Prop := fnThroughRow.holds Tryz.pinned (OpenSpec.ofChange fnThroughSpec)

/-- ITS FALSE NEIGHBOUR: 'it returns false'. Refute it at one input. -/
def fnThroughWrong : ChangeSpec := { name := "fnThrough", fn := fun _ => fun
  | [d] => { results := [.lit (.bool false)], args := [d] }
  | _ => none }
def FnThroughWrongFalsely : Prop := fnThroughRow.holds Tryz.pinned (OpenSpec.ofChange fnThroughWrong)

/-- 'laws.FnExactDictOk': WHATEVER THE INPUT: true; the input reads as it did. -/
def fnExactDictOkSpec : ChangeSpec := { name := "fnExactDictOk", fn := fun _ => fun
  | [d] => { results := [.lit (.bool true)], args := [d] }
  | _ => none }
def fnExactDictOkRow : OpenClaim := { program := "ytglcaejddckleaagreatdoor", sum := "fb1acfea498bc7d9aee64450a0474f39e635ad1e9f5550533bd5ba489c216ab8", func := "loop.example/shuttle/laws.FnExactDictOk", spec := "fnExactDictOk", inPlace := ["math.archTrunc", "math.Float64bits", "math.Float64frombits"], unfollowed := true, recurses := true, named := ["math/bits.deBruijn64tab", "internal/strconv.uint64pow10", "math/bits.deBruijn32tab"], apart := false, laid := [("math/bits.deBruijn32tab", laid_math_bits_deBruijn32tab), ("math/bits.deBruijn64tab", laid_math_bits_deBruijn64tab), ("internal/strconv.uint64pow10", laid_internal_strconv_uint64pow10)] }
def FnExactDictOkSaid : Prop := fnExactDictOkRow.holds Tryz.pinned (OpenSpec.ofChange fnExactDictOkSpec)

/-- ITS FALSE NEIGHBOUR: 'it returns false'. Refute it at one input. -/
def fnExactDictOkWrong : ChangeSpec := { name := "fnExactDictOk", fn := fun _ => fun
  | [d] => { results := [.lit (.bool false)], args := [d] }
  | _ => none }
def FnExactDictOkWrongFalsely : Prop := fnExactDictOkRow.holds Tryz.pinned (OpenSpec.ofChange fnExactDictOkWrong)

/-- 'laws.FnExactDictGet': WHATEVER THE INPUT: true; the input reads as it did. -/
def fnExactDictGetSpec : ChangeSpec := { name := "fnExactDictGet", fn := fun _ => fun
  | [d1, d2] => { results := [.lit (.bool true)], args := [d1, d2] }
  | _ => none }
def fnExactDictGetRow : OpenClaim := { program := "ytglcaejddckleaagreatdoor", sum := "fb1acfea498bc7d9aee64450a0474f39e635ad1e9f5550533bd5ba489c216ab8", func := "loop.example/shuttle/laws.FnExactDictGet", spec := "fnExactDictGet", inPlace := ["math.archTrunc", "math.Float64bits", "math.Float64frombits"], unfollowed := true, recurses := true, named := ["math/bits.deBruijn64tab", "internal/strconv.uint64pow10", "math/bits.deBruijn32tab"], apart := false, laid := [("math/bits.deBruijn32tab", laid_math_bits_deBruijn32tab), ("math/bits.deBruijn64tab", laid_math_bits_deBruijn64tab), ("internal/strconv.uint64pow10", laid_internal_strconv_uint64pow10)] }
def FnExactDictGetSaid : Prop := fnExactDictGetRow.holds Tryz.pinned (OpenSpec.ofChange fnExactDictGetSpec)

/-- ITS FALSE NEIGHBOUR: 'it returns false'. Refute it at one input. -/
def fnExactDictGetWrong : ChangeSpec := { name := "fnExactDictGet", fn := fun _ => fun
  | [d1, d2] => { results := [.lit (.bool false)], args := [d1, d2] }
  | _ => none }
def FnExactDictGetWrongFalsely : Prop := fnExactDictGetRow.holds Tryz.pinned (OpenSpec.ofChange fnExactDictGetWrong)

/-- 'laws.FnExactDictPut': WHATEVER THE INPUT: true; the input reads as it did. -/
def fnExactDictPutSpec : ChangeSpec := { name := "fnExactDictPut", fn := fun _ => fun
  | [d1, d2, d3] => { results := [.lit (.bool true)], args := [d1, d2, d3] }
  | _ => none }
def fnExactDictPutRow : OpenClaim := { program := "ytglcaejddckleaagreatdoor", sum := "fb1acfea498bc7d9aee64450a0474f39e635ad1e9f5550533bd5ba489c216ab8", func := "loop.example/shuttle/laws.FnExactDictPut", spec := "fnExactDictPut", inPlace := ["math.archTrunc", "math.Float64bits", "math.Float64frombits"], unfollowed := true, recurses := true, named := ["math/bits.deBruijn64tab", "internal/strconv.uint64pow10", "math/bits.deBruijn32tab"], apart := false, laid := [("math/bits.deBruijn32tab", laid_math_bits_deBruijn32tab), ("math/bits.deBruijn64tab", laid_math_bits_deBruijn64tab), ("internal/strconv.uint64pow10", laid_internal_strconv_uint64pow10)] }
def FnExactDictPutSaid : Prop := fnExactDictPutRow.holds Tryz.pinned (OpenSpec.ofChange fnExactDictPutSpec)

/-- ITS FALSE NEIGHBOUR: 'it returns false'. Refute it at one input. -/
def fnExactDictPutWrong : ChangeSpec := { name := "fnExactDictPut", fn := fun _ => fun
  | [d1, d2, d3] => { results := [.lit (.bool false)], args := [d1, d2, d3] }
  | _ => none }
def FnExactDictPutWrongFalsely : Prop := fnExactDictPutRow.holds Tryz.pinned (OpenSpec.ofChange fnExactDictPutWrong)

/-- 'laws.FnExactDictAfter': WHATEVER THE INPUT: true; the input reads as it did. -/
def fnExactDictAfterSpec : ChangeSpec := { name := "fnExactDictAfter", fn := fun _ => fun
  | [d1, d2] => { results := [.lit (.bool true)], args := [d1, d2] }
  | _ => none }
def fnExactDictAfterRow : OpenClaim := { program := "ytglcaejddckleaagreatdoor", sum := "fb1acfea498bc7d9aee64450a0474f39e635ad1e9f5550533bd5ba489c216ab8", func := "loop.example/shuttle/laws.FnExactDictAfter", spec := "fnExactDictAfter", inPlace := ["math.archTrunc", "math.Float64bits", "math.Float64frombits"], unfollowed := true, recurses := true, named := ["math/bits.deBruijn64tab", "internal/strconv.uint64pow10", "math/bits.deBruijn32tab"], apart := false, laid := [("math/bits.deBruijn32tab", laid_math_bits_deBruijn32tab), ("math/bits.deBruijn64tab", laid_math_bits_deBruijn64tab), ("internal/strconv.uint64pow10", laid_internal_strconv_uint64pow10)] }
def FnExactDictAfterSaid : Prop := fnExactDictAfterRow.holds Tryz.pinned (OpenSpec.ofChange fnExactDictAfterSpec)

/-- ITS FALSE NEIGHBOUR: 'it returns false'. Refute it at one input. -/
def fnExactDictAfterWrong : ChangeSpec := { name := "fnExactDictAfter", fn := fun _ => fun
  | [d1, d2] => { results := [.lit (.bool false)], args := [d1, d2] }
  | _ => none }
def FnExactDictAfterWrongFalsely : Prop := fnExactDictAfterRow.holds Tryz.pinned (OpenSpec.ofChange fnExactDictAfterWrong)

/-- 'laws.FnExactDictLen': WHATEVER THE INPUT: true; the input reads as it did. -/
def fnExactDictLenSpec : ChangeSpec := { name := "fnExactDictLen", fn := fun _ => fun
  | [d] => { results := [.lit (.bool true)], args := [d] }
  | _ => none }
def fnExactDictLenRow : OpenClaim := { program := "ytglcaejddckleaagreatdoor", sum := "fb1acfea498bc7d9aee64450a0474f39e635ad1e9f5550533bd5ba489c216ab8", func := "loop.example/shuttle/laws.FnExactDictLen", spec := "fnExactDictLen", inPlace := ["math.archTrunc", "math.Float64bits", "math.Float64frombits"], unfollowed := true, recurses := true, named := ["math/bits.deBruijn64tab", "internal/strconv.uint64pow10", "math/bits.deBruijn32tab"], apart := false, laid := [("math/bits.deBruijn32tab", laid_math_bits_deBruijn32tab), ("math/bits.deBruijn64tab", laid_math_bits_deBruijn64tab), ("internal/strconv.uint64pow10", laid_internal_strconv_uint64pow10)] }
def FnExactDictLenSaid : Prop := fnExactDictLenRow.holds Tryz.pinned (OpenSpec.ofChange fnExactDictLenSpec)

/-- ITS FALSE NEIGHBOUR: 'it returns false'. Refute it at one input. -/
def fnExactDictLenWrong : ChangeSpec := { name := "fnExactDictLen", fn := fun _ => fun
  | [d] => { results := [.lit (.bool false)], args := [d] }
  | _ => none }
def FnExactDictLenWrongFalsely : Prop := fnExactDictLenRow.holds Tryz.pinned (OpenSpec.ofChange fnExactDictLenWrong)

/-- 'laws.FnExactDictPairs': WHATEVER THE INPUT: true; the input reads as it did. -/
def fnExactDictPairsSpec : ChangeSpec := { name := "fnExactDictPairs", fn := fun _ => fun
  | [d] => { results := [.lit (.bool true)], args := [d] }
  | _ => none }
def fnExactDictPairsRow : OpenClaim := { program := "ytglcaejddckleaagreatdoor", sum := "fb1acfea498bc7d9aee64450a0474f39e635ad1e9f5550533bd5ba489c216ab8", func := "loop.example/shuttle/laws.FnExactDictPairs", spec := "fnExactDictPairs", inPlace := ["math.archTrunc", "math.Float64bits", "math.Float64frombits"], unfollowed := true, recurses := true, named := ["math/bits.deBruijn64tab", "internal/strconv.uint64pow10", "math/bits.deBruijn32tab"], apart := false, laid := [("math/bits.deBruijn32tab", laid_math_bits_deBruijn32tab), ("math/bits.deBruijn64tab", laid_math_bits_deBruijn64tab), ("internal/strconv.uint64pow10", laid_internal_strconv_uint64pow10)] }
def FnExactDictPairsSaid : Prop := fnExactDictPairsRow.holds Tryz.pinned (OpenSpec.ofChange fnExactDictPairsSpec)

/-- ITS FALSE NEIGHBOUR: 'it returns false'. Refute it at one input. -/
def fnExactDictPairsWrong : ChangeSpec := { name := "fnExactDictPairs", fn := fun _ => fun
  | [d] => { results := [.lit (.bool false)], args := [d] }
  | _ => none }
def FnExactDictPairsWrongFalsely : Prop := fnExactDictPairsRow.holds Tryz.pinned (OpenSpec.ofChange fnExactDictPairsWrong)

/- THE SECOND FORM. 'bulk': how many values and letters a reading holds, each counted each time it is reached (what is shared counts as often as it is met; a slice's spare places count too). A statement '..UptoSaid' is the law's where the arguments, and the package variables that the reading takes, are together of bulk at most 1048576: NARROWER than '..Said'. Prove '..Said' where nothing that the law and all that it calls make is longer than what came in: it says more and counts as full. Else prove '..UptoSaid'. A law counts once. -/
mutual
def uptoBulk {H : Type} : DataW H → Nat
  | .lit (.string bytes) => bytes.length + 1
  | .lit _ => 1
  | .nil => 1
  | .ptr d => uptoBulk d + 1
  | .slice elems spare => uptoBulkAll elems + uptoBulkAll spare + 1
  | .agg parts => uptoBulkAll parts + 1
  | .iface _ d => uptoBulk d + 1
  | .map entries => uptoBulkEntries entries + 1
  | .held _ => 1
def uptoBulkAll {H : Type} : List (DataW H) → Nat
  | [] => 0
  | d :: r => uptoBulk d + uptoBulkAll r
def uptoBulkEntries {H : Type} : List (Lit × DataW H) → Nat
  | [] => 0
  | x :: r => uptoBulkEntry x + uptoBulkEntries r
def uptoBulkEntry {H : Type} : Lit × DataW H → Nat
  | (.string bytes, d) => bytes.length + uptoBulk d + 1
  | (_, d) => uptoBulk d + 1
 end
def uptoSmall : (H : Type) → List (DataW H) → Bool := fun _ ds => decide (uptoBulkAll ds ≤ 1048576)
def OpenSpec.upto (s : _root_.Go.ChangeSpec) : _root_.Go.OpenSpec := { _root_.Go.OpenSpec.ofChange s with cond := some uptoSmall }

/-- 'laws.FnDict', WHERE WHAT IT READS IS OF BULK AT MOST 1048576: true; the input reads as it did. -/
def fnDictUptoRow : OpenClaim := { program := "ytglcaejddckleaagreatdoor", sum := "fb1acfea498bc7d9aee64450a0474f39e635ad1e9f5550533bd5ba489c216ab8", func := "loop.example/shuttle/laws.FnDict", spec := "fnDict", inPlace := ["math.archTrunc", "math.Float64bits", "math.Float64frombits"], unfollowed := true, recurses := true, named := ["math/bits.deBruijn64tab", "internal/strconv.uint64pow10", "math/bits.deBruijn32tab"], apart := false, laid := [("math/bits.deBruijn32tab", laid_math_bits_deBruijn32tab), ("math/bits.deBruijn64tab", laid_math_bits_deBruijn64tab), ("internal/strconv.uint64pow10", laid_internal_strconv_uint64pow10)], narrowed := true }
def FnDictUptoSaid : Prop := fnDictUptoRow.holds Tryz.pinned (OpenSpec.upto fnDictSpec)

/-- 'laws.FnThrough', WHERE WHAT IT READS IS OF BULK AT MOST 1048576: true; the input reads as it did. -/
def fnThroughUptoRow : OpenClaim := { program := "ytglcaejddckleaagreatdoor", sum := "fb1acfea498bc7d9aee64450a0474f39e635ad1e9f5550533bd5ba489c216ab8", func := "loop.example/shuttle/laws.FnThrough", spec := "fnThrough", inPlace := ["math.archTrunc", "math.Float64bits", "math.Float64frombits"], unfollowed := true, recurses := true, named := ["math/bits.deBruijn64tab", "internal/strconv.uint64pow10", "math/bits.deBruijn32tab"], apart := false, laid := [("math/bits.deBruijn32tab", laid_math_bits_deBruijn32tab), ("math/bits.deBruijn64tab", laid_math_bits_deBruijn64tab), ("internal/strconv.uint64pow10", laid_internal_strconv_uint64pow10)], narrowed := true }
def FnThroughUptoSaid : Prop := fnThroughUptoRow.holds Tryz.pinned (OpenSpec.upto fnThroughSpec)

/-- 'laws.FnExactDictOk', WHERE WHAT IT READS IS OF BULK AT MOST 1048576: true; the input reads as it did. -/
def fnExactDictOkUptoRow : OpenClaim := { program := "ytglcaejddckleaagreatdoor", sum := "fb1acfea498bc7d9aee64450a0474f39e635ad1e9f5550533bd5ba489c216ab8", func := "loop.example/shuttle/laws.FnExactDictOk", spec := "fnExactDictOk", inPlace := ["math.archTrunc", "math.Float64bits", "math.Float64frombits"], unfollowed := true, recurses := true, named := ["math/bits.deBruijn64tab", "internal/strconv.uint64pow10", "math/bits.deBruijn32tab"], apart := false, laid := [("math/bits.deBruijn32tab", laid_math_bits_deBruijn32tab), ("math/bits.deBruijn64tab", laid_math_bits_deBruijn64tab), ("internal/strconv.uint64pow10", laid_internal_strconv_uint64pow10)], narrowed := true }
def FnExactDictOkUptoSaid : Prop := fnExactDictOkUptoRow.holds Tryz.pinned (OpenSpec.upto fnExactDictOkSpec)

/-- 'laws.FnExactDictGet', WHERE WHAT IT READS IS OF BULK AT MOST 1048576: true; the input reads as it did. -/
def fnExactDictGetUptoRow : OpenClaim := { program := "ytglcaejddckleaagreatdoor", sum := "fb1acfea498bc7d9aee64450a0474f39e635ad1e9f5550533bd5ba489c216ab8", func := "loop.example/shuttle/laws.FnExactDictGet", spec := "fnExactDictGet", inPlace := ["math.archTrunc", "math.Float64bits", "math.Float64frombits"], unfollowed := true, recurses := true, named := ["math/bits.deBruijn64tab", "internal/strconv.uint64pow10", "math/bits.deBruijn32tab"], apart := false, laid := [("math/bits.deBruijn32tab", laid_math_bits_deBruijn32tab), ("math/bits.deBruijn64tab", laid_math_bits_deBruijn64tab), ("internal/strconv.uint64pow10", laid_internal_strconv_uint64pow10)], narrowed := true }
def FnExactDictGetUptoSaid : Prop := fnExactDictGetUptoRow.holds Tryz.pinned (OpenSpec.upto fnExactDictGetSpec)

/-- 'laws.FnExactDictPut', WHERE WHAT IT READS IS OF BULK AT MOST 1048576: true; the input reads as it did. -/
def fnExactDictPutUptoRow : OpenClaim := { program := "ytglcaejddckleaagreatdoor", sum := "fb1acfea498bc7d9aee64450a0474f39e635ad1e9f5550533bd5ba489c216ab8", func := "loop.example/shuttle/laws.FnExactDictPut", spec := "fnExactDictPut", inPlace := ["math.archTrunc", "math.Float64bits", "math.Float64frombits"], unfollowed := true, recurses := true, named := ["math/bits.deBruijn64tab", "internal/strconv.uint64pow10", "math/bits.deBruijn32tab"], apart := false, laid := [("math/bits.deBruijn32tab", laid_math_bits_deBruijn32tab), ("math/bits.deBruijn64tab", laid_math_bits_deBruijn64tab), ("internal/strconv.uint64pow10", laid_internal_strconv_uint64pow10)], narrowed := true }
def FnExactDictPutUptoSaid : Prop := fnExactDictPutUptoRow.holds Tryz.pinned (OpenSpec.upto fnExactDictPutSpec)

/-- 'laws.FnExactDictAfter', WHERE WHAT IT READS IS OF BULK AT MOST 1048576: true; the input reads as it did. -/
def fnExactDictAfterUptoRow : OpenClaim := { program := "ytglcaejddckleaagreatdoor", sum := "fb1acfea498bc7d9aee64450a0474f39e635ad1e9f5550533bd5ba489c216ab8", func := "loop.example/shuttle/laws.FnExactDictAfter", spec := "fnExactDictAfter", inPlace := ["math.archTrunc", "math.Float64bits", "math.Float64frombits"], unfollowed := true, recurses := true, named := ["math/bits.deBruijn64tab", "internal/strconv.uint64pow10", "math/bits.deBruijn32tab"], apart := false, laid := [("math/bits.deBruijn32tab", laid_math_bits_deBruijn32tab), ("math/bits.deBruijn64tab", laid_math_bits_deBruijn64tab), ("internal/strconv.uint64pow10", laid_internal_strconv_uint64pow10)], narrowed := true }
def FnExactDictAfterUptoSaid : Prop := fnExactDictAfterUptoRow.holds Tryz.pinned (OpenSpec.upto fnExactDictAfterSpec)

/-- 'laws.FnExactDictLen', WHERE WHAT IT READS IS OF BULK AT MOST 1048576: true; the input reads as it did. -/
def fnExactDictLenUptoRow : OpenClaim := { program := "ytglcaejddckleaagreatdoor", sum := "fb1acfea498bc7d9aee64450a0474f39e635ad1e9f5550533bd5ba489c216ab8", func := "loop.example/shuttle/laws.FnExactDictLen", spec := "fnExactDictLen", inPlace := ["math.archTrunc", "math.Float64bits", "math.Float64frombits"], unfollowed := true, recurses := true, named := ["math/bits.deBruijn64tab", "internal/strconv.uint64pow10", "math/bits.deBruijn32tab"], apart := false, laid := [("math/bits.deBruijn32tab", laid_math_bits_deBruijn32tab), ("math/bits.deBruijn64tab", laid_math_bits_deBruijn64tab), ("internal/strconv.uint64pow10", laid_internal_strconv_uint64pow10)], narrowed := true }
def FnExactDictLenUptoSaid : Prop := fnExactDictLenUptoRow.holds Tryz.pinned (OpenSpec.upto fnExactDictLenSpec)

/-- 'laws.FnExactDictPairs', WHERE WHAT IT READS IS OF BULK AT MOST 1048576: true; the input reads as it did. -/
def fnExactDictPairsUptoRow : OpenClaim := { program := "ytglcaejddckleaagreatdoor", sum := "fb1acfea498bc7d9aee64450a0474f39e635ad1e9f5550533bd5ba489c216ab8", func := "loop.example/shuttle/laws.FnExactDictPairs", spec := "fnExactDictPairs", inPlace := ["math.archTrunc", "math.Float64bits", "math.Float64frombits"], unfollowed := true, recurses := true, named := ["math/bits.deBruijn64tab", "internal/strconv.uint64pow10", "math/bits.deBruijn32tab"], apart := false, laid := [("math/bits.deBruijn32tab", laid_math_bits_deBruijn32tab), ("math/bits.deBruijn64tab", laid_math_bits_deBruijn64tab), ("internal/strconv.uint64pow10", laid_internal_strconv_uint64pow10)], narrowed := true }
def FnExactDictPairsUptoSaid : Prop := fnExactDictPairsUptoRow.holds Tryz.pinned (OpenSpec.upto fnExactDictPairsSpec)

end Rows
end Go.Proofs.YtglcaejddckleaaGreatDoor
