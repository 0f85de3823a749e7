/-
  DkN.
-/
import Derived.Test.YtfceeijdmilieaaGreatDoorDiMP
import Derived.Test.YtfceeijdmilieaaGreatDoorBq4
import Derived.Test.YtfceeijdmilieaaGreatDoorBq3
import Derived.Test.YtfceeijdmilieaaGreatDoorRows
import Derived.Test.YtfceeijdmilieaaGreatDoorBq1
import Derived.ProofKit
import Derived.OpenShut
import Derived.Deep.DeepHandedRow
import Derived.Lib.LaidTab
import Derived.LaidSub
import Derived.Test.YtfceeijdmilieaaGreatDoorDkMP
import Derived.Deep.Slices
import Derived.ChangeSame
namespace Go.Proofs.YtfceeijdmilieaaGreatDoor
open Go.RowKit
set_option linter.unusedVariables false

theorem hashI_range (k n : Int) (f : Nat) (s : ByteArray) (r : Int) : 0 ≤ hashI k n f s r ∧ hashI k n f s r < 18446744073709551616 := by
  unfold hashI
  split
  · exact fnv_range _
  · split
    · exact fnv_range _
    · split
      · exact mixI_range _
      · exact mixI_range _
def hN (v : Vl) : Nat := (hashI v.kind v.num v.flt v.str v.ref).toNat
theorem hN_eq (v : Vl) : ((hN v : Nat) : Int) = hashI v.kind v.num v.flt v.str v.ref := by
  have := hashI_range v.kind v.num v.flt v.str v.ref
  unfold hN
  omega
structure Wf (v : Vl) : Prop where
  flt : v.flt < 18446744073709551616
  str : v.str.size ≤ maxLen
theorem hk_of {v : Vl} (h : keyB v = true) (hw : Wf v) : HK v.kind v.flt v.str := by
  unfold keyB Vl.ok at h
  simp only [Bool.and_eq_true, bne_iff_ne, ne_eq, Bool.not_eq_true', Bool.and_eq_false_iff, Bool.or_eq_false_iff, beq_eq_false_iff_ne] at h
  obtain ⟨⟨hv, h0⟩, h3⟩ := h
  have hk := valid_kind hv
  refine ⟨hw.str, hk.1, hk.2, fun e => ?_⟩
  rcases h3 with h3 | h3
  · exact absurd e h3
  · refine ⟨hw.flt, h3.1, ?_⟩
    rw [Bool.eq_false_iff]
    intro hz
    rw [fz_whole hz] at h3
    exact absurd h3.2 (by decide)
theorem hsS {v : Vl} (h : keyB v = true) (hw : Wf v) : HsS v (hN v) :=
  ⟨by have := hashI_range v.kind v.num v.flt v.str v.ref; have := hN_eq v; omega, fun w => by rw [hN_eq]; exact l1hash_any v.kind v.num v.flt v.str v.ref w (hk_of h hw)⟩
theorem hsI {v : Vl} (h : keyB v = true) (hw : Wf v) : HsI Tabs v (hN v) :=
  ⟨by have := hashI_range v.kind v.num v.flt v.str v.ref; have := hN_eq v; omega, fun w hT => by rw [hN_eq]; exact hashKey_any v.kind v.num v.flt v.str v.ref w (hk_of h hw) hT⟩
theorem lastsT : Lasts Tabs := fun w w' hT hb => hT.below hb hT.sz

/-- What comes in is well formed. -/
def WfD (d : Dc) : Prop := ∀ i, i < d.n → Wf (d.L i).key ∧ Wf (d.L i).val
/-- The hashes of a dict's keys. -/
def hD (d : Dc) (i : Nat) : Nat := hN (d.L i).key
theorem specOk (la : Option Addr) (lc : Nat) (ia : Option Addr) (ic : Nat) (xa : Option Addr) (xc : Nat) (d : Dc) (w : World) (hA : DAt w la ia xa d) (hS : Small d) (hW : WfD d) :
    Calls Tryz.prog 82 #[Dv la lc ia ic xa xc d] w fun e w' => e = .returned (.int .i64 (dictOk d (hD d))) ∧ Below w.heap.size w w' :=
  specDictOk la lc ia ic xa xc d (hD d) w hA hS (fun i hi hk => hsS hk (hW i hi).1)
theorem implOk (la : Option Addr) (lc : Nat) (ia : Option Addr) (ic : Nat) (xa : Option Addr) (xc : Nat) (d : Dc) (w : World) (hT : Tabs w) (hA : DAt w la ia xa d) (hS : Small d) (hW : WfD d) :
    Calls Tryz.prog 177 #[Dv la lc ia ic xa xc d] w fun e w' => e = .returned (.int .i64 (dictOk d (hD d))) ∧ Below w.heap.size w w' :=
  implDictOk Tabs lastsT la lc ia ic xa xc d (hD d) w hT hA hS (fun i hi hk => hsI hk (hW i hi).1)
end Go.Proofs.YtfceeijdmilieaaGreatDoor

namespace Go.Proofs.YtfceeijdmilieaaGreatDoor
open Go.ChangeShapes Go.WideShapes Go.ChangeAt Go.RowKit
set_option linter.unusedVariables false

theorem own : ownKnob Tryz.prog.godebug = none := by kernel_rfl
theorem laidOut : laidOutB Tryz.prog = true := by kernel_rfl

theorem fsL : Fs Tryz.prog 62 3 2 30 9 :=
  ⟨⟨_, _, _, _, _, Tryz.underlying62, rfl, rfl, rfl, rfl, rfl, rfl, rfl, rfl, rfl, rfl⟩, by kernel_rfl, by kernel_rfl, by kernel_rfl, by kernel_rfl, by kernel_rfl, Tryz.underlying3, Tryz.underlying2, Tryz.underlying30, Tryz.underlying9⟩

theorem flt_lt {b : Nat} (h : (Lit.float .f64 b).wf = true) : b < 18446744073709551616 := by
  simpa [Lit.wf] using h

/-- The three tables, as the rows list them. -/
def laid3 : List (String × DataW Unit) := [("math/bits.deBruijn32tab", Rows.laid_math_bits_deBruijn32tab), ("math/bits.deBruijn64tab", Rows.laid_math_bits_deBruijn64tab), ("internal/strconv.uint64pow10", Rows.laid_internal_strconv_uint64pow10)]

def tab32 : List Nat := [0, 1, 28, 2, 29, 14, 24, 3, 30, 22, 20, 15, 25, 17, 4, 8, 31, 27, 13, 23, 21, 19, 16, 7, 26, 12, 18, 6, 11, 5, 10, 9]

def setTab (cs : Array Value) : Obj → Obj
  | .cells _ t frozen => .cells cs t frozen
  | o => o
def withTabs (w : World) : World :=
  { w with heap := ((w.heap.modify 4 (setTab (tab32.map fun n : Nat => Value.int .u8 (n : Int)).toArray)).modify 2 (setTab (Lib.deBruijn64tab.map fun n : Nat => Value.int .u8 (n : Int)).toArray)).modify 3 (setTab (Lib.pow10Tab.map fun n => Value.int .u64 n).toArray) }

theorem one64 {W : World} (h : laidMetH Tryz.prog laid3 W) : Lib.TabIs Tryz.prog W "math/bits.deBruijn64tab" .u8 (Lib.deBruijn64tab.map fun n : Nat => (n : Int)) := by
  have h1 := laidMetH.filter (fun x => x.1 == "math/bits.deBruijn64tab") h
  have e : (laid3.filter fun x => x.1 == "math/bits.deBruijn64tab") = [("math/bits.deBruijn64tab", Lib.tabData .u8 (Lib.deBruijn64tab.map fun n : Nat => (n : Int)))] := by kernel_rfl
  rw [e] at h1
  exact Lib.tabIs_of_head (rest := []) (g := 2) (by kernel_rfl) (t := 354) (by kernel_rfl) Tryz.underlying354 Tryz.underlying5 (by kernel_rfl) (by kernel_rfl) h1

theorem one10 {W : World} (h : laidMetH Tryz.prog laid3 W) : Lib.TabIs Tryz.prog W "internal/strconv.uint64pow10" .u64 Lib.pow10Tab := by
  have h1 := laidMetH.filter (fun x => x.1 == "internal/strconv.uint64pow10") h
  have e : (laid3.filter fun x => x.1 == "internal/strconv.uint64pow10") = [("internal/strconv.uint64pow10", Lib.tabData .u64 Lib.pow10Tab)] := by kernel_rfl
  rw [e] at h1
  exact Lib.tabIs_of_head (rest := []) (g := 3) (by kernel_rfl) (t := 361) (by kernel_rfl) Tryz.underlying361 Tryz.underlying71 (by kernel_rfl) (by kernel_rfl) h1

theorem g64 : Tryz.prog.globalNamed "math/bits.deBruijn64tab" = some 2 := by kernel_rfl
theorem g10 : Tryz.prog.globalNamed "internal/strconv.uint64pow10" = some 3 := by kernel_rfl
theorem g32 : Tryz.prog.globalNamed "math/bits.deBruijn32tab" = some 4 := by kernel_rfl

theorem one32 {W : World} (h : laidMetH Tryz.prog laid3 W) : Lib.TabIs Tryz.prog W "math/bits.deBruijn32tab" .u8 (tab32.map fun n : Nat => (n : Int)) := by
  have h1 := laidMetH.filter (fun x => x.1 == "math/bits.deBruijn32tab") h
  have e : (laid3.filter fun x => x.1 == "math/bits.deBruijn32tab") = [("math/bits.deBruijn32tab", Lib.tabData .u8 (tab32.map fun n : Nat => (n : Int)))] := by kernel_rfl
  rw [e] at h1
  exact Lib.tabIs_of_head (rest := []) (g := 4) (by kernel_rfl) (t := 363) (by kernel_rfl) Tryz.underlying363 Tryz.underlying5 (by kernel_rfl) (by kernel_rfl) h1

/-- What the rows' list gives the walks. -/
theorem tabs_of {W : World} (h : laidMetH Tryz.prog laid3 W) : Tabs W := by
  have h64 := one64 h
  have h32 := one32 h
  refine ⟨?_, one10 h, ?_⟩
  · intro j hj
    have := h64.cell g64 j (by simpa using hj)
    rw [this]
    simp [List.getD, hj]
  · have c1 := World.block_lt_of_cell? _ _ (h32.cell g32 0 (by decide))
    have c2 := World.block_lt_of_cell? _ _ (h64.cell g64 0 (by decide))
    have c3 := World.block_lt_of_cell? _ _ ((one10 h).cell g10 0 (by decide))
    simp only at c1 c2 c3
    omega
end Go.Proofs.YtfceeijdmilieaaGreatDoor

namespace Go.Proofs.YtfceeijdmilieaaGreatDoor
open Go.ChangeShapes Go.WideShapes Go.ChangeAt Go.RowKit Go.Deep

section
variable {H : Type} {enc : TypeId × Value → H} {P : Program} {w : World} {base : Nat} {spare : Nat → Bool} {held : Bool}

/-- The fields of a Pair. -/
structure Gp (P : Program) (t tv ti tn tf ts : TypeId) : Prop where
  st : ∃ f0 f1 f2 : Field, P.underlying t = some (.struct #[f0, f1, f2]) ∧ f0.type = tv ∧ f1.type = tv ∧ f2.type = ti ∧ f0.offset = 0 ∧ f1.offset = 5 ∧ f2.offset = 10
  ct : P.cellsOf t = 11
  vs : Fs P tv ti tn tf ts

theorem read_pair {t tv ti tn tf ts : TypeId} (F : Gp P t tv ti tn tf ts) {fuel : Nat} {cs : List Value} {x : DataW H × List MemPlace} (h : DataW.trod enc P w base spare held fuel t cs = some x) :
    ∃ p : Pr, cs = prL p ∧ Wf p.key ∧ Wf p.val := by
  obtain ⟨f0, f1, f2, hu, t0, t1, t2, o0, o1, o2⟩ := F.st
  obtain ⟨xs, n, _, rfl, hl, hlen, hf⟩ := DataW.trod_struct hu h
  rw [F.ct] at hl
  match cs, hl with
  | [c0, c1, c2, c3, c4, c5, c6, c7, c8, c9, c10], _ =>
    match xs, hlen with
    | [y0, y1, y2], _ =>
      have h0 := hf 0 f0 rfl
      have h1 := hf 1 f1 rfl
      have h2 := hf 2 f2 rfl
      simp only [t0, t1, t2, o0, o1, o2, F.vs.ct, F.vs.ci, List.drop_zero, List.drop_succ_cons, List.take_succ_cons, List.take_zero, List.getElem?_cons_zero, List.getElem?_cons_succ] at h0 h1 h2
      obtain ⟨k0, k1, k2, k3, k4, ek, _, _, wk2, wk3, _, _⟩ := read_value F.vs h0
      obtain ⟨v0, v1, v2, v3, v4, ev, _, _, wv2, wv3, _, _⟩ := read_value F.vs h1
      obtain ⟨a2, e2, r2, w2⟩ := DataW.trod_int F.vs.ui h2
      simp only [List.cons.injEq, and_true] at ek ev e2
      obtain ⟨rfl, rfl, rfl, rfl, rfl⟩ := ek
      obtain ⟨rfl, rfl, rfl, rfl, rfl⟩ := ev
      subst e2
      exact ⟨⟨⟨k0, k1, k2, k3, k4⟩, ⟨v0, v1, v2, v3, v4⟩, a2⟩, rfl, ⟨flt_lt wk2, wk3⟩, ⟨flt_lt wv2, wv3⟩⟩

theorem read_pairs {tS t tv ti tn tf ts : TypeId} (F : Gp P t tv ti tn tf ts) (hS : P.underlying tS = some (.slice t)) {fuel : Nat} {cs : List Value} {x : DataW H × List MemPlace} (h : DataW.trod enc P w base spare held fuel tS cs = some x) :
    ∃ a n cap f, cs = [.slice a n cap] ∧ n ≤ maxLen ∧ PAt w a n f ∧ ∀ i, i < n → Wf (f i).key ∧ Wf (f i).val := by
  rcases open_slice hS h with ⟨rfl, _⟩ | ⟨a, len, cap, m, n, D, Pl, rfl, hb, hl, hm, hmm, rfl, hx⟩
  · exact ⟨none, 0, 0, fun _ => default, rfl, by unfold maxLen; omega, .inl rfl, fun i hi => by omega⟩
  have hlm : len ≤ m := by rw [hmm]; split <;> omega
  have each : ∀ i, i < len → ∃ p : Pr, (∀ j u, (prL p)[j]? = some u → w.cell? (a.add (i * 11 + j)) = some u) ∧ Wf p.key ∧ Wf p.val := by
    intro i hi
    obtain ⟨cs', h1, h2⟩ := hx i (by omega)
    rw [F.ct] at h1
    obtain ⟨p, rfl, w0, w1⟩ := read_pair F h2
    obtain ⟨_, _, hcell⟩ := World.cells?_some h1
    refine ⟨p, fun j u hu => ?_, w0, w1⟩
    have hj : j < 11 := by
      have := (List.getElem?_eq_some_iff.1 hu).1
      simpa [prL] using this
    have e := hcell j hj
    rw [add_add] at e
    rw [e]
    simpa using hu
  obtain ⟨f, hf⟩ := choose_lt each
  refine ⟨some a, len, cap, f, rfl, by omega, ?_, fun i hi => (hf i hi).2⟩
  by_cases h0 : len = 0
  · exact .inl h0
  · right
    obtain ⟨b, off, spot⟩ := a
    have h00 := (hf 0 (by omega)).1 0 _ rfl
    have hspot : spot = none := by simpa [Addr.add] using World.cell?_spot h00
    subst hspot
    refine ⟨b, off, rfl, ?_, fun i hi => ?_⟩
    · have := World.block_lt_of_cell? _ _ h00
      simpa [Addr.add] using this
    · refine PCell.of fun j u hu => ?_
      have := (hf i hi).1 j u hu
      rw [add_plain] at this
      rw [Nat.add_assoc]
      exact this

theorem read_ints {tS ti : TypeId} (ui : P.underlying ti = some (.int .i64)) (ci : P.cellsOf ti = 1) (hS : P.underlying tS = some (.slice ti)) {fuel : Nat} {cs : List Value} {x : DataW H × List MemPlace} (h : DataW.trod enc P w base spare held fuel tS cs = some x) :
    ∃ a n cap f, cs = [.slice a n cap] ∧ n ≤ maxLen ∧ IAt w a n f := by
  rcases open_slice hS h with ⟨rfl, _⟩ | ⟨a, len, cap, m, n, D, Pl, rfl, hb, hl, hm, hmm, rfl, hx⟩
  · exact ⟨none, 0, 0, fun _ => 0, rfl, by unfold maxLen; omega, .inl rfl⟩
  have hlm : len ≤ m := by rw [hmm]; split <;> omega
  have each : ∀ i, i < len → ∃ v : Int, w.cell? (a.add i) = some (.int .i64 v) := by
    intro i hi
    obtain ⟨cs', h1, h2⟩ := hx i (by omega)
    rw [ci] at h1
    obtain ⟨v, rfl, _, _⟩ := DataW.trod_int ui h2
    obtain ⟨_, _, hcell⟩ := World.cells?_some h1
    have e := hcell 0 (by omega)
    rw [add_add] at e
    exact ⟨v, by simpa using e⟩
  obtain ⟨f, hf⟩ := choose_lt each
  refine ⟨some a, len, cap, f, rfl, by omega, ?_⟩
  by_cases h0 : len = 0
  · exact .inl h0
  · right
    obtain ⟨b, off, spot⟩ := a
    have h00 := hf 0 (by omega)
    have hspot : spot = none := by simpa [Addr.add] using World.cell?_spot h00
    subst hspot
    refine ⟨b, off, rfl, ?_, fun i hi => ?_⟩
    · have := World.block_lt_of_cell? _ _ h00
      simpa [Addr.add] using this
    · have := hf i hi
      rw [add_plain] at this
      exact this
/-- The fields of a Dict. -/
structure Gd (P : Program) (t tL tI tP tv ti tn tf ts : TypeId) : Prop where
  st : ∃ f0 f1 f2 f3 f4 f5 : Field, P.underlying t = some (.struct #[f0, f1, f2, f3, f4, f5]) ∧ f0.type = tL ∧ f1.type = tI ∧ f2.type = tI ∧ f3.type = ti ∧ f4.type = ti ∧ f5.type = ti ∧ f0.offset = 0 ∧ f1.offset = 1 ∧ f2.offset = 2 ∧ f3.offset = 3 ∧ f4.offset = 4 ∧ f5.offset = 5
  ct : P.cellsOf t = 6
  cl : P.cellsOf tL = 1
  ck : P.cellsOf tI = 1
  uL : P.underlying tL = some (.slice tP)
  uI : P.underlying tI = some (.slice ti)
  ps : Gp P tP tv ti tn tf ts

theorem read_dict {t tL tI tP tv ti tn tf ts : TypeId} (F : Gd P t tL tI tP tv ti tn tf ts) {fuel : Nat} {cs : List Value} {x : DataW H × List MemPlace} (h : DataW.trod enc P w base spare held fuel t cs = some x) :
    ∃ la lc ia ic xa xc d, cs = [.slice la d.n lc, .slice ia d.m ic, .slice xa d.x xc, .int .i64 d.used, .int .i64 d.live, .int .i64 d.turns] ∧ DAt w la ia xa d ∧ Lens d ∧ WfD d := by
  obtain ⟨f0, f1, f2, f3, f4, f5, hu, t0, t1, t2, t3, t4, t5, o0, o1, o2, o3, o4, o5⟩ := F.st
  obtain ⟨xs, n, _, rfl, hl, hlen, hf⟩ := DataW.trod_struct hu h
  rw [F.ct] at hl
  match cs, hl with
  | [c0, c1, c2, c3, c4, c5], _ =>
    match xs, hlen with
    | [y0, y1, y2, y3, y4, y5], _ =>
      have h0 := hf 0 f0 rfl
      have h1 := hf 1 f1 rfl
      have h2 := hf 2 f2 rfl
      have h3 := hf 3 f3 rfl
      have h4 := hf 4 f4 rfl
      have h5 := hf 5 f5 rfl
      simp only [t0, t1, t2, t3, t4, t5, o0, o1, o2, o3, o4, o5, F.cl, F.ck, F.ps.vs.ci, List.drop_zero, List.drop_succ_cons, List.take_succ_cons, List.take_zero, List.getElem?_cons_zero, List.getElem?_cons_succ] at h0 h1 h2 h3 h4 h5
      obtain ⟨la, ln, lc, fL, e0, n0, pL, wL⟩ := read_pairs F.ps F.uL h0
      obtain ⟨ia, im, ic, fI, e1, n1, pI⟩ := read_ints F.ps.vs.ui F.ps.vs.ci F.uI h1
      obtain ⟨xa, xn, xc, fX, e2, n2, pX⟩ := read_ints F.ps.vs.ui F.ps.vs.ci F.uI h2
      obtain ⟨a3, e3, r3, w3⟩ := DataW.trod_int F.ps.vs.ui h3
      obtain ⟨a4, e4, r4, w4⟩ := DataW.trod_int F.ps.vs.ui h4
      obtain ⟨a5, e5, r5, w5⟩ := DataW.trod_int F.ps.vs.ui h5
      simp only [List.cons.injEq, and_true] at e0 e1 e2 e3 e4 e5
      subst e0 e1 e2 e3 e4 e5
      exact ⟨la, lc, ia, ic, xa, xc, ⟨ln, fL, im, fI, xn, fX, a3, a4, a5⟩, rfl, ⟨pL, pI, pX⟩, ⟨n0, n1, n2, fun i hi => ⟨(wL i hi).1.str, (wL i hi).2.str⟩⟩, wL⟩
end

theorem gpL : Gp Tryz.prog 326 62 3 2 30 9 := ⟨⟨_, _, _, Tryz.underlying326, rfl, rfl, rfl, rfl, rfl, rfl⟩, by kernel_rfl, fsL⟩
theorem gdL : Gd Tryz.prog 185 183 89 326 62 3 2 30 9 := ⟨⟨_, _, _, _, _, _, Tryz.underlying185, rfl, rfl, rfl, rfl, rfl, rfl, rfl, rfl, rfl, rfl, rfl, rfl⟩, by kernel_rfl, by kernel_rfl, by kernel_rfl, Tryz.underlying183, Tryz.underlying89, gpL⟩
theorem cellsD : Tryz.prog.cellsOf 185 = 6 := by kernel_rfl

theorem array6 {α : Type} {cs : Array α} (h : cs.size = 6) : ∃ c0 c1 c2 c3 c4 c5, cs = #[c0, c1, c2, c3, c4, c5] := by
  obtain ⟨l⟩ := cs
  match l, h with
  | [c0, c1, c2, c3, c4, c5], _ => exact ⟨c0, c1, c2, c3, c4, c5, rfl⟩

set_option maxRecDepth 100000 in
theorem open_dict {H : Type} {enc : TypeId × Value → H} {w : World} {base : Nat} {spare : Nat → Bool} {held : Bool} {r : Reach} {b0 : Nat} {v : Value} {dd : DataW H} {p : List MemPlace} (hv : Value.okWide Tryz.prog w r b0 185 v) (h : DataW.Trod enc Tryz.prog w base spare held 185 v dd p) :
    ∃ la lc ia ic xa xc d, v = Dv la lc ia ic xa xc d ∧ DAt w la ia xa d ∧ Lens d ∧ WfD d := by
  obtain ⟨cs, rfl, hsz⟩ := okWide_struct Tryz.underlying185 hv
  obtain ⟨c0, c1, c2, c3, c4, c5, rfl⟩ := array6 (hsz.trans cellsD)
  obtain ⟨fuel, hf⟩ := h
  obtain ⟨la, lc, ia, ic, xa, xc, d, e, h1, h2, h3⟩ := read_dict gdL hf
  simp only [Value.cells, List.cons.injEq, and_true] at e
  obtain ⟨rfl, rfl, rfl, rfl, rfl, rfl⟩ := e
  exact ⟨la, lc, ia, ic, xa, xc, d, rfl, h1, h2, h3⟩
end Go.Proofs.YtfceeijdmilieaaGreatDoor
