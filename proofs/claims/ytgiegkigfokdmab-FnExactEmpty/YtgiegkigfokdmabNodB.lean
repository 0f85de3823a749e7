/-
  Shapes: the program's map of kids.
-/
import Derived.Test.YtgiegkigfokdmabNodA
import Derived.BigQuiet
import Derived.RegionTactic
import Derived.ChangeAlike
namespace Go.Proofs.Ytgiegkigfokdmab
open Go.RowKit
open Go.Maps (Keyed)
set_option linter.unusedVariables false

theorem laidOutN : laidOutB Try.prog = true := by kernel_rfl
theorem rowShape : 56 < Try.prog.types.size := of_decide_eq_true (by kernel_rfl)
set_option maxRecDepth 100000 in
theorem shapeKey : Try.prog.keyTypeAt 2 56 = true := by kernel_rfl
theorem shapeLaw : Keyed Try.prog 56 := Keyed.of_law (deep_law_laid laidOutN (m := 2) (by omega) rowShape shapeKey (by rw [Try.underlying56]))
theorem zeroNode (w : World) : (zeroValue 63).run Try.prog w = .ok (.pointer none) w := by kernel_rfl

theorem keyLits3 {P : Program} {k ti ts : TypeId} {fs : Array Field} {f0 f1 f2 : Field} (hu : P.underlying k = some (.struct fs)) (hfs : fs = #[f0, f1, f2]) (hi : P.underlying ti = some (.int .i64)) (hs : P.underlying ts = some .string)
    (hc : P.cellsOf k = 3) (hci : P.cellsOf ti = 1) (hcs : P.cellsOf ts = 1) (t0 : f0.type = ti) (t1 : f1.type = ts) (t2 : f2.type = ti) (o0 : f0.offset = 0) (o1 : f1.offset = 1) (o2 : f2.offset = 2)
    (n0 : f0.name != "_") (n1 : f1.name != "_") (n2 : f2.name != "_") (s : Shp) (h1 : (Lit.int .i64 s.parent).wf = true) (h2 : s.key.size ≤ maxLen) (h3 : (Lit.int .i64 s.count).wf = true) (n : Nat) :
    P.keyLits (n + 2) k [.int .i64 s.parent, .string s.key, .int .i64 s.count] = some [.int .i64 s.parent, .string s.key.data.toList, .int .i64 s.count] := by
  subst hfs
  have a0 : P.keyLits (n + 1) ti [.int .i64 s.parent] = some [.int .i64 s.parent] := by unfold Program.keyLits; simp [hi, h1]
  have a1 : P.keyLits (n + 1) ts [.string s.key] = some [.string s.key.data.toList] := by unfold Program.keyLits; simp [hs, h2]
  have a2 : P.keyLits (n + 1) ti [.int .i64 s.count] = some [.int .i64 s.count] := by unfold Program.keyLits; simp [hi, h3]
  have m0 : f0.name ≠ "_" := by simpa using n0
  have m1 : f1.name ≠ "_" := by simpa using n1
  have m2 : f2.name ≠ "_" := by simpa using n2
  rw [Program.keyLits.eq_def]
  simp [hu, hc, t0, t1, t2, o0, o1, o2, hci, hcs, a0, a1, a2, m0, m1, m2]

theorem cellsShape : Try.prog.cellsOf 56 = 3 := by kernel_rfl
theorem cellsInt : Try.prog.cellsOf 3 = 1 := by kernel_rfl
theorem cellsStr : Try.prog.cellsOf 9 = 1 := by kernel_rfl
set_option maxRecDepth 100000 in
theorem shapeKeyed : Try.prog.keyType 56 = true := by kernel_rfl
theorem keyShape (s : Shp) (h1 : (Lit.int .i64 s.parent).wf = true) (h2 : s.key.size ≤ maxLen) (h3 : (Lit.int .i64 s.count).wf = true) : ∃ kl, keyOf Try.prog 56 (ShV s) = some kl := by
  have hn : 1 < Try.prog.types.size := of_decide_eq_true (by kernel_rfl)
  obtain ⟨n, hn⟩ : ∃ n, Try.prog.types.size + 1 = n + 2 := ⟨Try.prog.types.size - 1, by omega⟩
  have hf : (ShV s).formed Try.prog 56 = true := by simp [Value.formed, Try.underlying56, cellsShape]
  have hl := keyLits3 Try.underlying56 rfl Try.underlying3 Try.underlying9 cellsShape cellsInt cellsStr rfl rfl rfl rfl rfl rfl rfl rfl rfl s h1 h2 h3 n
  rw [← hn] at hl
  have hcell : (ShV s).cells.toList = [.int .i64 s.parent, .string s.key, .int .i64 s.count] := rfl
  unfold keyOf
  rw [Try.underlying56]
  simp only [shapeKeyed, hf, Bool.and_self, if_true]
  rw [hcell, hl]
  exact ⟨_, rfl⟩
end Go.Proofs.Ytgiegkigfokdmab
