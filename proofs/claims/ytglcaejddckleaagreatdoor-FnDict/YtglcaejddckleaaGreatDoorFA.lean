import Derived.Test.YtglcaejddckleaaGreatDoorKeyF
import Derived.ProofKit
import Derived.OpenShut
import Derived.ShutString
import Derived.ChangeOld
import Derived.Below
import Derived.Test.YtglcaejddckleaaGreatDoorHashJ
import Derived.Test.YtglcaejddckleaaGreatDoorDcI
import Derived.Test.YtglcaejddckleaaGreatDoorQA
import Derived.Test.YtglcaejddckleaaGreatDoorQB
import Derived.Test.YtglcaejddckleaaGreatDoorHashC
import Derived.Test.YtglcaejddckleaaGreatDoorRows
import Derived.Deep.DeepHandedRow
import Derived.Lib.LaidTab
import Derived.LaidSub
import Derived.Deep.Slices
import Derived.ChangeSame
import Derived.Laws.Strings
import Derived.Laws.OwnMore
import Derived.OrdersHeld
import Derived.Deep.RegionHeld
set_option linter.unusedVariables false
namespace Go.Proofs.YtglcaejddckleaaGreatDoor
section
open Go.RowKit
theorem uy {p : Prop} (h : p) : Hid p := hide h
theorem uh {p : Prop} (h : Hid p) : p := unhide h
theorem sA {α : Type _} (l : List α) (i : Nat) (a : α) : l.toArray.setIfInBounds i a = (l.set i a).toArray := List.setIfInBounds_toArray ..
theorem sB {α : Type _} (x : α) (l : List α) (n : Nat) (v : α) : (x :: l).set (n + 1) v = x :: l.set n v := rfl
theorem sC {α : Type _} (x : α) (l : List α) (v : α) : (x :: l).set 0 v = v :: l := rfl
end
section
open Go.ChangeShapes Go.WideShapes Go.ChangeAt Go.RowKit
section
variable {H : Type} {enc : TypeId × Value → H} {P : Program} {w : World} {base : Nat} {spare : Nat → Bool} {held : Bool}
structure Fs (P : Program) (t ti tn tf ts : TypeId) : Prop where
 st : ∃ f0 f1 f2 f3 f4 : Field, P.underlying t = some (.struct #[f0, f1, f2, f3, f4]) ∧ f0.type = ti ∧ f1.type = tn ∧ f2.type = tf ∧ f3.type = ts ∧ f4.type = ti ∧ f0.offset = 0 ∧ f1.offset = 1 ∧ f2.offset = 2 ∧ f3.offset = 3 ∧ f4.offset = 4
 ci : P.cellsOf ti = 1
 cn : P.cellsOf tn = 1
 cf : P.cellsOf tf = 1
 cs : P.cellsOf ts = 1
 ct : P.cellsOf t = 5
 ui : P.underlying ti = some (.int .i64)
 un : P.underlying tn = some (.int .i64)
 uf : P.underlying tf = some (.float .f64)
 us : P.underlying ts = some .string
end
end
section
open Go.RowKit
attribute [local go_sem] run_store_float run_equalIn_float
theorem fz_whole {x : Nat} (h : fz x = true) : wholeB x = true := by
 have h' : (Ieee.double.order x 0 == some .eq) = true := h
 rcases Fl.read_cases x with ⟨s, m, i, hr, hi, hi2, hm, _⟩ | ⟨s, hr⟩ | ⟨s, t, hr⟩
 ·rw [Fl.ord_of hr Fl.read_nil hi (by omega), Fl.cmp_eq, Fl.sc_zero] at h'
  have h0 : Fl.sc s m i = 0 := by simpa using h'
  have hu := Fl.U_pos
  have g : geB x = true := by
   show (Ieee.double.order x 14114281232179134464 == some .gt || Ieee.double.order x 14114281232179134464 == some .eq) = true
   rw [Fl.ord_of hr Fl.read_m63 hi (by omega), Fl.sc_m63, Fl.cmp_gt, Fl.cmp_eq, h0]
   simp only [Bool.or_eq_true, decide_eq_true_eq]; left; omega
  have l : ltB x = true := by
   show (Ieee.double.order x 4890909195324358656 == some .lt) = true
   rw [Fl.ord_of hr Fl.read_c63 hi (by omega), Fl.sc_c63, Fl.cmp_lt, h0]
   simp only [decide_eq_true_eq]; omega
  have hn : fnan x = false := by
   show (!(Ieee.double.order x x == some .eq)) = false
   rw [Fl.ord_of hr hr hi hi, Fl.cmp_eq]; simp
  have ha : asIs x = true := by unfold asIs; rw [h]; simp
  unfold wholeB
  rw [g, l, asIs_whole ha hn g l]; rfl
 ·exfalso
  unfold Ieee.Format.order at h'
  rw [hr, Fl.read_nil] at h'
  cases s <;> simp [Ieee.Datum.order] at h'
 ·exfalso
  unfold Ieee.Format.order at h'
  rw [hr] at h'
  simp [Ieee.Datum.order] at h'
theorem valid_kind {kind num : Int} {flt : Nat} {s : ByteArray} {ref : Int} (h : validB kind num flt s ref = true) : 0 ≤ kind ∧ kind ≤ 8 := by
 unfold validB at h
 by_cases k0 : kind = 0
 ·omega
 by_cases k1 : kind = 1
 ·omega
 by_cases k2 : kind = 2
 ·omega
 by_cases k3 : kind = 3
 ·omega
 by_cases k4 : kind = 4
 ·omega
 by_cases k5 : kind = 5
 ·omega
 by_cases k6 : kind = 6
 ·omega
 by_cases k7 : kind = 7
 ·omega
 by_cases k8 : kind = 8
 ·omega
 exfalso
 simp [k0, k1, k2, k3, k4, k5, k6, k7, k8] at h
end
section
open Go.RowKit
attribute [local go_sem] run_store_float run_equalIn_float
def Strs (n : Nat) (f : Nat → Pr) : Prop := ∀ i, i < n → (f i).key.str.size ≤ maxLen ∧ (f i).val.str.size ≤ maxLen
structure Lens (d : Dc) : Prop where
 n : d.n ≤ maxLen
 m : d.m ≤ maxLen
 x : d.x ≤ maxLen
 s : Strs d.n d.L
end
section
open Go.RowKit
attribute [local go_sem] run_store_float run_equalIn_float
end
section
open Go.RowKit
attribute [local go_sem] run_store_float run_equalIn_float
theorem PAt.setOther {w : World} {s o n q : Nat} {f : Nat → Pr} {v : Value} (h : PAt w (some ⟨s, o, none⟩) n f) {b : Nat} (hb : s ≠ b) : PAt (w.setCell ⟨b, q, none⟩ v) (some ⟨s, o, none⟩) n f := by
 rcases h with h | ⟨b', off, e, hlt, hc⟩
 ·exact .inl h
 ·cases e
  exact .inr ⟨s, o, rfl, by simpa using hlt, fun i hi => (hc i hi).keep (fun q => cell_set_block (Ne.symm hb))⟩
theorem IAt.setOther {w : World} {s o n q : Nat} {f : Nat → Int} {v : Value} (h : IAt w (some ⟨s, o, none⟩) n f) {b : Nat} (hb : s ≠ b) : IAt (w.setCell ⟨b, q, none⟩ v) (some ⟨s, o, none⟩) n f := by
 rcases h with h | ⟨b', off, e, hlt, hc⟩
 ·exact .inl h
 ·cases e
  exact .inr ⟨s, o, rfl, by simpa using hlt, fun i hi => (cell_set_block (Ne.symm hb)).trans (hc i hi)⟩
end
section
open Go.RowKit
theorem hashI_range (k n : Int) (f : Nat) (s : ByteArray) (r : Int) : 0 ≤ hashI k n f s r ∧ hashI k n f s r < 18446744073709551616 := by
 unfold hashI
 split
 ·exact fnv_range _
 ·split
  ·exact fnv_range _
  ·split
   ·exact mixI_range _
   ·exact mixI_range _
def hN (v : Vl) : Nat := (hashI v.kind v.num v.flt v.str v.ref).toNat
theorem hN_eq (v : Vl) : ((hN v : Nat) : Int) = hashI v.kind v.num v.flt v.str v.ref := by
 have := hashI_range v.kind v.num v.flt v.str v.ref
 unfold hN
 omega
structure Wf (v : Vl) : Prop where
 flt : v.flt < 18446744073709551616
 str : v.str.size ≤ maxLen
theorem hk_of {v : Vl} (h : keyB v = true) (hw : Wf v) : HK v.kind v.flt v.str := by
 unfold keyB Vl.ok at h
 simp only [Bool.and_eq_true, bne_iff_ne, ne_eq, Bool.not_eq_true', Bool.and_eq_false_iff, Bool.or_eq_false_iff, beq_eq_false_iff_ne] at h
 obtain ⟨⟨hv, h0⟩, h3⟩ := h
 have hk := valid_kind hv
 refine ⟨hw.str, hk.1, hk.2, fun e => ?_⟩
 rcases h3 with h3 | h3
 ·exact absurd e h3
 ·refine ⟨hw.flt, h3.1, ?_⟩
  rw [Bool.eq_false_iff]
  intro hz
  rw [fz_whole hz] at h3
  exact absurd h3.2 (by decide)
theorem hsS {v : Vl} (h : keyB v = true) (hw : Wf v) : HsS v (hN v) :=
 ⟨by have := hashI_range v.kind v.num v.flt v.str v.ref; have := hN_eq v; omega, fun w => by rw [hN_eq]; exact l1hash_any v.kind v.num v.flt v.str v.ref w (hk_of h hw)⟩
theorem hsI {v : Vl} (h : keyB v = true) (hw : Wf v) : HsI Tabs v (hN v) :=
 ⟨by have := hashI_range v.kind v.num v.flt v.str v.ref; have := hN_eq v; omega, fun w hT => by rw [hN_eq]; exact hashKey_any v.kind v.num v.flt v.str v.ref w (hk_of h hw) hT⟩
theorem lastsT : Lasts Tabs := fun w w' hT hb => hT.below hb hT.sz
def WfD (d : Dc) : Prop := ∀ i, i < d.n → Wf (d.L i).key ∧ Wf (d.L i).val
def hD (d : Dc) (i : Nat) : Nat := hN (d.L i).key
theorem specOk (la : Option Addr) (lc : Nat) (ia : Option Addr) (ic : Nat) (xa : Option Addr) (xc : Nat) (d : Dc) (w : World) (hA : DAt w la ia xa d) (hS : Small d) (hW : WfD d) :
  Calls Tryz.prog 29 #[Dv la lc ia ic xa xc d] w fun e w' => e = .returned (.int .i64 (dictOk d (hD d))) ∧ Below w.heap.size w w' :=
 specDictOk la lc ia ic xa xc d (hD d) w hA hS (fun i hi hk => hsS hk (hW i hi).1)
theorem implOk (la : Option Addr) (lc : Nat) (ia : Option Addr) (ic : Nat) (xa : Option Addr) (xc : Nat) (d : Dc) (w : World) (hT : Tabs w) (hA : DAt w la ia xa d) (hS : Small d) (hW : WfD d) :
  Calls Tryz.prog 18 #[Dv la lc ia ic xa xc d] w fun e w' => e = .returned (.int .i64 (dictOk d (hD d))) ∧ Below w.heap.size w w' :=
 implDictOk Tabs lastsT la lc ia ic xa xc d (hD d) w hT hA hS (fun i hi hk => hsI hk (hW i hi).1)
end
section
open Go.ChangeShapes Go.WideShapes Go.ChangeAt Go.RowKit
theorem own : ownKnob Tryz.prog.godebug = none := by kernel_rfl
theorem laidOut : laidOutB Tryz.prog = true := by kernel_rfl
def laid3 : List (String × DataW Unit) := [("math/bits.deBruijn32tab", Rows.laid_math_bits_deBruijn32tab), ("math/bits.deBruijn64tab", Rows.laid_math_bits_deBruijn64tab), ("internal/strconv.uint64pow10", Rows.laid_internal_strconv_uint64pow10)]
def tab32 : List Nat := [0, 1, 28, 2, 29, 14, 24, 3, 30, 22, 20, 15, 25, 17, 4, 8, 31, 27, 13, 23, 21, 19, 16, 7, 26, 12, 18, 6, 11, 5, 10, 9]
def setTab (cs : Array Value) : Obj → Obj
 | .cells _ t frozen => .cells cs t frozen
 | o => o
def withTabs (w : World) : World :=
 { w with heap := ((w.heap.modify 3 (setTab (tab32.map fun n : Nat => Value.int .u8 (n : Int)).toArray)).modify 1 (setTab (Lib.deBruijn64tab.map fun n : Nat => Value.int .u8 (n : Int)).toArray)).modify 2 (setTab (Lib.pow10Tab.map fun n => Value.int .u64 n).toArray) }
theorem one64 {W : World} (h : laidMetH Tryz.prog laid3 W) : Lib.TabIs Tryz.prog W "math/bits.deBruijn64tab" .u8 (Lib.deBruijn64tab.map fun n : Nat => (n : Int)) := by
 have h1 := laidMetH.filter (fun x => x.1 == "math/bits.deBruijn64tab") h
 have e : (laid3.filter fun x => x.1 == "math/bits.deBruijn64tab") = [("math/bits.deBruijn64tab", Lib.tabData .u8 (Lib.deBruijn64tab.map fun n : Nat => (n : Int)))] := by kernel_rfl
 rw [e] at h1
 exact Lib.tabIs_of_head (rest := []) (g := 1) (by kernel_rfl) (t := 161) (by kernel_rfl) Tryz.underlying161 Tryz.underlying5 (by kernel_rfl) (by kernel_rfl) h1
theorem one10 {W : World} (h : laidMetH Tryz.prog laid3 W) : Lib.TabIs Tryz.prog W "internal/strconv.uint64pow10" .u64 Lib.pow10Tab := by
 have h1 := laidMetH.filter (fun x => x.1 == "internal/strconv.uint64pow10") h
 have e : (laid3.filter fun x => x.1 == "internal/strconv.uint64pow10") = [("internal/strconv.uint64pow10", Lib.tabData .u64 Lib.pow10Tab)] := by kernel_rfl
 rw [e] at h1
 exact Lib.tabIs_of_head (rest := []) (g := 2) (by kernel_rfl) (t := 168) (by kernel_rfl) Tryz.underlying168 Tryz.underlying67 (by kernel_rfl) (by kernel_rfl) h1
theorem g64 : Tryz.prog.globalNamed "math/bits.deBruijn64tab" = some 1 := by kernel_rfl
theorem g10 : Tryz.prog.globalNamed "internal/strconv.uint64pow10" = some 2 := by kernel_rfl
theorem g32 : Tryz.prog.globalNamed "math/bits.deBruijn32tab" = some 3 := by kernel_rfl
theorem one32 {W : World} (h : laidMetH Tryz.prog laid3 W) : Lib.TabIs Tryz.prog W "math/bits.deBruijn32tab" .u8 (tab32.map fun n : Nat => (n : Int)) := by
 have h1 := laidMetH.filter (fun x => x.1 == "math/bits.deBruijn32tab") h
 have e : (laid3.filter fun x => x.1 == "math/bits.deBruijn32tab") = [("math/bits.deBruijn32tab", Lib.tabData .u8 (tab32.map fun n : Nat => (n : Int)))] := by kernel_rfl
 rw [e] at h1
 exact Lib.tabIs_of_head (rest := []) (g := 3) (by kernel_rfl) (t := 170) (by kernel_rfl) Tryz.underlying170 Tryz.underlying5 (by kernel_rfl) (by kernel_rfl) h1
theorem tabs_of {W : World} (h : laidMetH Tryz.prog laid3 W) : Tabs W := by
 have h64 := one64 h
 have h32 := one32 h
 refine ⟨?_, one10 h, ?_⟩
 ·intro j hj
  have := h64.cell g64 j (by simpa using hj)
  rw [this]
  simp [List.getD, hj]
 ·have c1 := World.block_lt_of_cell? _ _ (h32.cell g32 0 (by decide))
  have c2 := World.block_lt_of_cell? _ _ (h64.cell g64 0 (by decide))
  have c3 := World.block_lt_of_cell? _ _ ((one10 h).cell g10 0 (by decide))
  simp only at c1 c2 c3
  omega
end
section
open Go.ChangeShapes Go.WideShapes Go.ChangeAt Go.RowKit Go.Deep
section
variable {H : Type} {enc : TypeId × Value → H} {P : Program} {w : World} {base : Nat} {spare : Nat → Bool} {held : Bool}
structure Gp (P : Program) (t tv ti tn tf ts : TypeId) : Prop where
 st : ∃ f0 f1 f2 : Field, P.underlying t = some (.struct #[f0, f1, f2]) ∧ f0.type = tv ∧ f1.type = tv ∧ f2.type = ti ∧ f0.offset = 0 ∧ f1.offset = 5 ∧ f2.offset = 10
 ct : P.cellsOf t = 11
 vs : Fs P tv ti tn tf ts
structure Gd (P : Program) (t tL tI tP tv ti tn tf ts : TypeId) : Prop where
 st : ∃ f0 f1 f2 f3 f4 f5 : Field, P.underlying t = some (.struct #[f0, f1, f2, f3, f4, f5]) ∧ f0.type = tL ∧ f1.type = tI ∧ f2.type = tI ∧ f3.type = ti ∧ f4.type = ti ∧ f5.type = ti ∧ f0.offset = 0 ∧ f1.offset = 1 ∧ f2.offset = 2 ∧ f3.offset = 3 ∧ f4.offset = 4 ∧ f5.offset = 5
 ct : P.cellsOf t = 6
 cl : P.cellsOf tL = 1
 ck : P.cellsOf tI = 1
 uL : P.underlying tL = some (.slice tP)
 uI : P.underlying tI = some (.slice ti)
 ps : Gp P tP tv ti tn tf ts
end
end
section
open Go.RowKit
attribute [local go_sem] run_store_float run_equalIn_float
def lvF (d : Dc) (j : Nat) : Pr := d.L ((livL d d.n).getD j 0)
def lvN (d : Dc) : Nat := (livL d d.n).length
theorem lvF_at {d : Dc} {k : Nat} (hk : k < d.n) (h : (d.L k).turn ≠ 0) : lvF d (livL d k).length = d.L k := by
 unfold lvF
 obtain ⟨r, hr⟩ := livL_prefix (d := d) (k := k + 1) (n := d.n) (by omega)
 rw [livL_live h] at hr
 rw [← hr]
 simp [List.getD]
theorem lvN_le (d : Dc) : lvN d ≤ d.n := livL_le d d.n
open Classical in
noncomputable def prsN (d : Dc) : Nat := if dictOk d (hD d) = 0 then lvN d else 0
theorem news_after (wr : World) (o1 : Obj) (cs : List Value) (t : TypeId) : ∀ j u, cs[j]? = some u → ((wr.alloc o1).alloc (.cells cs.toArray t)).cell? ((⟨wr.heap.size + 1, 0, none⟩ : Addr).add j) = some u := by
 have hb := Deep.blk_alloc_new (wr.alloc o1) (.cells cs.toArray t)
 have hz : (wr.alloc o1).heap.size = wr.heap.size + 1 := by simp
 rw [hz] at hb
 exact World.news_of_block hb
end
section
open Go.RowKit
def intV (n : Int) : Vl := ⟨2, n, 0, ⟨#[]⟩, 0⟩
def upd {α : Type} (f : Nat → α) (i : Nat) (v : α) : Nat → α := fun j => if j = i then v else f j
theorem upd_same {α : Type} (f : Nat → α) (i : Nat) (v : α) : upd f i v i = v := if_pos rfl
theorem upd_other {α : Type} (f : Nat → α) {i j : Nat} (v : α) (h : j ≠ i) : upd f i v j = f j := if_neg h
structure KeyLaw (K : Vl → Prop) (hf : Vl → Nat) : Prop where
 refl : ∀ a, K a → likeB a a = true
 symm : ∀ a b, K a → K b → likeB a b = true → likeB b a = true
 trans : ∀ a b c, K a → K b → K c → likeB a b = true → likeB b c = true → likeB a c = true
 hash : ∀ a b, K a → K b → likeB a b = true → hf a = hf b
 int : ∀ a b, K a → K b → a.kind = 2 → b.kind = 2 → a.num = b.num → likeB a b = true
 own : ∀ n : Int, K (intV n)
 none : noneB (default : Vl) = true
theorem like_kind {a b : Vl} (h : likeB a b = true) : a.kind = b.kind := by
 unfold likeB at h; simp only [Bool.and_eq_true, beq_iff_eq] at h; exact h.1
theorem like_num {a b : Vl} (h : likeB a b = true) : a.num = b.num := by
 unfold likeB at h; simp only [Bool.and_eq_true, beq_iff_eq] at h; exact h.2.1
theorem like_small {a b : Vl} {m : Nat} (h : likeB a b = true) : smallK m a ↔ smallK m b := by
 unfold smallK; rw [like_kind h, like_num h]
def Reach (x : Nat) (X : Nat → Int) (a s : Nat) : Prop := ∃ t, t < x ∧ s = (a + t) % x ∧ ∀ j, j < t → X ((a + j) % x) ≠ 0
theorem Reach.mono {x : Nat} {X Y : Nat → Int} {a s : Nat} (h : Reach x X a s) (e : ∀ j, j < x → X j ≠ 0 → Y j ≠ 0) : Reach x Y a s := by
 obtain ⟨t, h1, h2, h3⟩ := h
 exact ⟨t, h1, h2, fun j hj => e _ (Nat.mod_lt _ (by omega)) (h3 j hj)⟩
structure Idx (hf : Vl → Nat) (L : Nat → Pr) (x : Nat) (X : Nat → Int) (P : Nat → Prop) : Prop where
 range : ∀ s, s < x → X s = 0 ∨ X s = -1 ∨ (0 < X s ∧ P (X s - 1).toNat)
 has : ∀ i, P i → ∃ s, s < x ∧ X s = i + 1 ∧ Reach x X (hf (L i).key % x) s
 uniq : ∀ s s', s < x → s' < x → 0 < X s → X s = X s' → s = s'
theorem Idx.congr {hf : Vl → Nat} {L L' : Nat → Pr} {x : Nat} {X : Nat → Int} {P P' : Nat → Prop} (h : Idx hf L x X P) (hP : ∀ i, P' i ↔ P i) (hL : ∀ i, P i → (L' i).key = (L i).key) : Idx hf L' x X P' :=
 ⟨fun s hs => (h.range s hs).imp id (Or.imp id (fun e => ⟨e.1, (hP _).2 e.2⟩)), fun i hi => by rw [hL i ((hP i).1 hi)]; exact h.has i ((hP i).1 hi), h.uniq⟩
theorem Idx.empty (hf : Vl → Nat) (L : Nat → Pr) (x : Nat) (P : Nat → Prop) (hP : ∀ i, ¬ P i) : Idx hf L x (fun _ => 0) P :=
 ⟨fun s _ => .inl rfl, fun i hi => absurd hi (hP i), fun s s' _ _ h => absurd h (by simp)⟩
theorem Idx.put {hf : Vl → Nat} {L : Nat → Pr} {x : Nat} {X : Nat → Int} {P : Nat → Prop} (h : Idx hf L x X P) {p s : Nat} (hp : ¬ P p) (hs : s < x) (h0 : X s ≤ 0) (hr : Reach x X (hf (L p).key % x) s) : Idx hf L x (upd X s ((p : Int) + 1)) (fun i => P i ∨ i = p) := by
 have hne : ∀ j, j < x → X j ≠ 0 → upd X s ((p : Int) + 1) j ≠ 0 := by
  intro j _ hj
  by_cases e : j = s
  ·subst e; rw [upd_same]; omega
  ·rw [upd_other _ _ e]; exact hj
 have hno : ∀ t, t < x → X t ≠ (p : Int) + 1 := by
  intro t ht e
  rcases h.range t ht with h1 | h1 | h1
  ·omega
  ·omega
  ·rw [e] at h1
   exact hp (by simpa using h1.2)
 refine ⟨fun t ht => ?_, fun i hi => ?_, fun t t' ht ht' h1 h2 => ?_⟩
 ·by_cases e : t = s
  ·subst e; rw [upd_same]; exact .inr (.inr ⟨by omega, .inr (by omega)⟩)
  ·rw [upd_other _ _ e]; exact (h.range t ht).imp id (Or.imp id (fun e => ⟨e.1, .inl e.2⟩))
 ·by_cases e : i = p
  ·subst e; exact ⟨s, hs, upd_same _ _ _, hr.mono hne⟩
  ·obtain ⟨t, h1, h2, h3⟩ := h.has i (hi.resolve_right e)
   exact ⟨t, h1, by rw [upd_other _ _ (fun e' => by subst e'; omega)]; exact h2, h3.mono hne⟩
 ·by_cases e : t = s
  ·by_cases e' : t' = s
   ·rw [e, e']
   ·subst e; rw [upd_same, upd_other _ _ e'] at h2; exact absurd h2.symm (hno t' ht')
  ·by_cases e' : t' = s
   ·subst e'; rw [upd_same, upd_other _ _ e] at h2; exact absurd h2 (hno t ht)
   ·rw [upd_other _ _ e, upd_other _ _ e'] at h2
    rw [upd_other _ _ e] at h1
    exact h.uniq t t' ht ht' h1 h2
theorem Idx.leave {hf : Vl → Nat} {L : Nat → Pr} {x : Nat} {X : Nat → Int} {P : Nat → Prop} (h : Idx hf L x X P) {s : Nat} (hs : s < x) (h0 : 0 < X s) : Idx hf L x (upd X s (-1)) (fun i => P i ∧ (i : Int) + 1 ≠ X s) := by
 have hne : ∀ j, j < x → X j ≠ 0 → upd X s (-1) j ≠ 0 := by
  intro j _ hj
  by_cases e : j = s
  ·subst e; rw [upd_same]; omega
  ·rw [upd_other _ _ e]; exact hj
 refine ⟨fun t ht => ?_, fun i hi => ?_, fun t t' ht ht' h1 h2 => ?_⟩
 ·by_cases e : t = s
  ·subst e; rw [upd_same]; exact .inr (.inl rfl)
  ·rw [upd_other _ _ e]
   refine (h.range t ht).imp id (Or.imp id (fun e' => ⟨e'.1, e'.2, fun e'' => e (h.uniq t s ht hs e'.1 (by omega))⟩))
 ·obtain ⟨t, h1, h2, h3⟩ := h.has i hi.1
  refine ⟨t, h1, ?_, h3.mono hne⟩
  rw [upd_other _ _ (fun e' => by subst e'; exact hi.2 h2.symm)]
  exact h2
 ·by_cases e : t = s
  ·subst e; rw [upd_same] at h1; omega
  ·by_cases e' : t' = s
   ·subst e'; rw [upd_same, upd_other _ _ e] at h2; rw [upd_other _ _ e] at h1; omega
   ·rw [upd_other _ _ e, upd_other _ _ e'] at h2
    rw [upd_other _ _ e] at h1
    exact h.uniq t t' ht ht' h1 h2
def useN (X : Nat → Int) : Nat → Nat
 | 0 => 0
 | k + 1 => if X k = 0 then useN X k else useN X k + 1
theorem usedTo_useN (d : Dc) (k : Nat) : usedTo d k = useN d.X k := by
 induction k with
 | zero => rfl
 | succ k ih => show (if _ then _ else _) = (if _ then _ else _); rw [ih]
theorem useN_le (X : Nat → Int) (k : Nat) : useN X k ≤ k := by
 induction k with
 | zero => exact Nat.le_refl _
 | succ k ih =>
  show (if X k = 0 then useN X k else useN X k + 1) ≤ k + 1
  by_cases e : X k = 0
  ·rw [if_pos e]; omega
  ·rw [if_neg e]; omega
theorem useN_congr {X Y : Nat → Int} {k : Nat} (h : ∀ j, j < k → (X j = 0 ↔ Y j = 0)) : useN X k = useN Y k := by
 induction k with
 | zero => rfl
 | succ k ih =>
  show (if _ then _ else _) = (if _ then _ else _)
  rw [ih (fun j hj => h j (by omega))]
  by_cases e : X k = 0
  ·rw [if_pos e, if_pos ((h k (by omega)).1 e)]
  ·rw [if_neg e, if_neg (fun e' => e ((h k (by omega)).2 e'))]
theorem useN_zero (k : Nat) : useN (fun _ => 0) k = 0 := by
 induction k with
 | zero => rfl
 | succ k ih => show (if _ then _ else _) = _; rw [if_pos rfl]; exact ih
theorem useN_put {X : Nat → Int} {s : Nat} {v : Int} (hv : v ≠ 0) (h0 : X s = 0) : ∀ k, useN (upd X s v) k = useN X k + (if s < k then 1 else 0) := by
 intro k
 induction k with
 | zero => rfl
 | succ k ih =>
  show (if _ then _ else _) = (if _ then _ else _) + _
  rw [ih]
  by_cases e : k = s
  ·subst e
   rw [upd_same, if_neg hv, if_pos h0, if_neg (by omega), if_pos (by omega)]
  ·rw [upd_other _ _ e]
   by_cases e1 : X k = 0
   ·rw [if_pos e1, if_pos e1]
    by_cases e2 : s < k
    ·rw [if_pos e2, if_pos (by omega)]
    ·rw [if_neg e2, if_neg (by omega)]
   ·rw [if_neg e1, if_neg e1]
    by_cases e2 : s < k
    ·rw [if_pos e2, if_pos (by omega)]
    ·rw [if_neg e2, if_neg (by omega)]
theorem useN_free {X : Nat → Int} {k : Nat} (h : useN X k < k) : ∃ j, j < k ∧ X j = 0 := by
 induction k with
 | zero => omega
 | succ k ih =>
  by_cases e : X k = 0
  ·exact ⟨k, by omega, e⟩
  ·have h' : (if X k = 0 then useN X k else useN X k + 1) < k + 1 := h
   rw [if_neg e] at h'
   obtain ⟨j, h1, h2⟩ := ih (by omega)
   exact ⟨j, by omega, h2⟩
theorem round_mod {x a s : Nat} (ha : a < x) (hs : s < x) : ∃ t, t < x ∧ s = (a + t) % x := by
 by_cases h : a ≤ s
 ·exact ⟨s - a, by omega, by rw [show a + (s - a) = s by omega, Nat.mod_eq_of_lt hs]⟩
 ·refine ⟨s + x - a, by omega, ?_⟩
  rw [show a + (s + x - a) = s + x by omega, Nat.add_mod_right, Nat.mod_eq_of_lt hs]
def freeSlot (x : Nat) (X : Nat → Int) (a : Nat) : Option Nat := (seqL x a x).find? (fun s => decide (X s ≤ 0))
theorem seqL_split {x a f t : Nat} (h : t < f) : seqL x a f = seqL x a t ++ ((a + t) % x) :: (List.range' (t + 1) (f - t - 1)).map (fun j => (a + j) % x) := by
 unfold seqL
 have : List.range f = List.range t ++ t :: List.range' (t + 1) (f - t - 1) := by
  rw [List.range_eq_range', List.range_eq_range', show f = t + (f - t) by omega, ← List.range'_append_1, show t + (f - t) - t - 1 = f - t - 1 by omega]
  congr 1
  obtain ⟨g, hg⟩ : ∃ g, f - t = g + 1 := ⟨f - t - 1, by omega⟩
  rw [hg, List.range'_succ]
  simp
 rw [this]
 simp
theorem freeSlot_at {x a t : Nat} {X : Nat → Int} (ht : t < x) (h : ∀ j, j < t → 0 < X ((a + j) % x)) (h0 : X ((a + t) % x) ≤ 0) : freeSlot x X a = some ((a + t) % x) := by
 unfold freeSlot
 rw [seqL_split ht, List.find?_append]
 have : (seqL x a t).find? (fun s => decide (X s ≤ 0)) = none := by
  rw [List.find?_eq_none]
  intro s hs
  unfold seqL at hs
  obtain ⟨j, hj, rfl⟩ := List.mem_map.1 hs
  have := h j (List.mem_range.1 hj)
  simp; omega
 rw [this]
 simp [h0]
theorem least {P : Nat → Prop} : ∀ n, (∃ t, t < n ∧ P t) → ∃ t, t < n ∧ P t ∧ ∀ j, j < t → ¬ P j := by
 intro n
 induction n with
 | zero => rintro ⟨t, h, _⟩; omega
 | succ n ih =>
  rintro ⟨t, h, hp⟩
  by_cases e : ∃ t, t < n ∧ P t
  ·obtain ⟨t, h1, h2, h3⟩ := ih e
   exact ⟨t, by omega, h2, h3⟩
  ·exact ⟨t, h, hp, fun j hj hpj => e ⟨j, by omega, hpj⟩⟩
theorem freeSlot_some {x a : Nat} {X : Nat → Int} (ha : a < x) (hu : useN X x < x) : ∃ t, t < x ∧ freeSlot x X a = some ((a + t) % x) ∧ X ((a + t) % x) ≤ 0 ∧ ∀ j, j < t → 0 < X ((a + j) % x) := by
 obtain ⟨s, hs, h0⟩ := useN_free hu
 obtain ⟨t, ht, e⟩ := round_mod ha hs
 obtain ⟨t, h1, h2, h3⟩ := least (P := fun t => X ((a + t) % x) ≤ 0) x ⟨t, ht, by rw [← e]; omega⟩
 have h3' : ∀ j, j < t → 0 < X ((a + j) % x) := fun j hj => by have := h3 j hj; omega
 exact ⟨t, h1, freeSlot_at h1 h3' h2, h2, h3'⟩
def enterD (hf : Vl → Nat) (d : Dc) (k : Vl) (p : Nat) : Dc :=
 match freeSlot d.x d.X (hf k % d.x) with
 | none => d
 | some a => { d with X := upd d.X a ((p : Int) + 1), used := if d.X a = 0 then d.used + 1 else d.used }
theorem enterD_some {hf : Vl → Nat} {d : Dc} {k : Vl} {p a : Nat} (h : freeSlot d.x d.X (hf k % d.x) = some a) : enterD hf d k p = { d with X := upd d.X a ((p : Int) + 1), used := if d.X a = 0 then d.used + 1 else d.used } := by
 unfold enterD; rw [h]
theorem enterD_idx {hf : Vl → Nat} {d : Dc} {L : Nat → Pr} {k : Vl} {p : Nat} {P : Nat → Prop} (h : Idx hf L d.x d.X P) (hp : ¬ P p) (hk : hf (L p).key = hf k) (hx : useN d.X d.x < d.x) (hu : (useN d.X d.x : Int) = d.used) :
  Idx hf L (enterD hf d k p).x (enterD hf d k p).X (fun i => P i ∨ i = p) ∧ (useN (enterD hf d k p).X (enterD hf d k p).x : Int) = (enterD hf d k p).used ∧ (enterD hf d k p).x = d.x ∧ (enterD hf d k p).n = d.n ∧ (enterD hf d k p).L = d.L ∧ (enterD hf d k p).m = d.m ∧ (enterD hf d k p).I = d.I ∧ (enterD hf d k p).live = d.live ∧ (enterD hf d k p).turns = d.turns ∧ useN (enterD hf d k p).X d.x ≤ useN d.X d.x + 1 := by
 have hx0 : 0 < d.x := by omega
 obtain ⟨t, h1, h2, h3, h4⟩ := freeSlot_some (a := hf k % d.x) (Nat.mod_lt _ hx0) hx
 rw [enterD_some h2]
 have hs : (hf k % d.x + t) % d.x < d.x := Nat.mod_lt _ hx0
 refine ⟨h.put hp hs h3 ⟨t, h1, by rw [hk], fun j hj => by rw [hk]; have := h4 j hj; omega⟩, ?_, rfl, rfl, rfl, rfl, rfl, rfl, rfl, ?_⟩
 ·show (useN (upd d.X ((hf k % d.x + t) % d.x) ((p : Int) + 1)) d.x : Int) = if d.X ((hf k % d.x + t) % d.x) = 0 then d.used + 1 else d.used
  by_cases e : d.X ((hf k % d.x + t) % d.x) = 0
  ·rw [if_pos e, useN_put (by omega) e, if_pos hs]; omega
  ·rw [if_neg e, ← hu, useN_congr (X := upd d.X _ _) (Y := d.X) (fun j hj => ?_)]
   by_cases e' : j = (hf k % d.x + t) % d.x
   ·subst e'; rw [upd_same]; constructor <;> intro h <;> omega
   ·rw [upd_other _ _ e']
 ·show useN (upd d.X ((hf k % d.x + t) % d.x) ((p : Int) + 1)) d.x ≤ _
  by_cases e : d.X ((hf k % d.x + t) % d.x) = 0
  ·rw [useN_put (by omega) e, if_pos hs]; omega
  ·rw [useN_congr (X := upd d.X _ _) (Y := d.X) (fun j hj => ?_)]
   ·omega
   ·by_cases e' : j = (hf k % d.x + t) % d.x
    ·subst e'; rw [upd_same]; constructor <;> intro h <;> omega
    ·rw [upd_other _ _ e']
structure LogOk (d : Dc) : Prop where
 ent : ∀ i, i < d.n → Entry d i
 ord : ∀ i j, i < j → j < d.n → (d.L i).turn ≠ 0 → (d.L j).turn ≠ 0 → (d.L i).turn < (d.L j).turn
 cnt : (lvN d : Int) = d.live
theorem logTo_says {d : Dc} : ∀ (k : Nat) {l last : Int}, logTo d k = some (l, last) → ((livL d k).length : Int) = l ∧ (∀ i j, i < j → j < k → (d.L i).turn ≠ 0 → (d.L j).turn ≠ 0 → (d.L i).turn < (d.L j).turn) ∧ ∀ i, i < k → (d.L i).turn ≠ 0 → (d.L i).turn ≤ last := by
 intro k
 induction k with
 | zero =>
  intro l last h
  have h : some ((0 : Int), (0 : Int)) = some (l, last) := h
  cases h
  exact ⟨rfl, fun i j _ hj => by omega, fun i hi => by omega⟩
 | succ k ih =>
  intro l last h
  cases e : logTo d k with
  | none =>
   have : logTo d (k + 1) = none := by show (match logTo d k with | none => none | some (live, last) => _) = none; rw [e]
   rw [this] at h; cases h
  | some p =>
   obtain ⟨l0, t0⟩ := p
   obtain ⟨i1, i2, i3⟩ := ih e
   by_cases ht : (d.L k).turn = 0
   ·rw [logTo_dead e ht] at h
    split at h
    ·cases h
     refine ⟨by rw [livL_dead ht]; exact i1, fun i j hij hj hi hj' => ?_, fun i hi ht' => ?_⟩
     ·by_cases ej : j = k
      ·subst ej; exact absurd ht hj'
      ·exact i2 i j hij (by omega) hi hj'
     ·by_cases ei : i = k
      ·subst ei; exact absurd ht ht'
      ·exact i3 i (by omega) ht'
    ·cases h
   ·rw [logTo_live e ht] at h
    split at h
    ·next hp =>
     cases h
     unfold pairB at hp
     simp only [Bool.and_eq_true, decide_eq_true_eq] at hp
     have hlt := hp.1.1.1.1
     refine ⟨by rw [livL_live ht, List.length_append, List.length_singleton]; omega, fun i j hij hj hi hj' => ?_, fun i hi ht' => ?_⟩
     ·by_cases ej : j = k
      ·subst ej
       have := i3 i (by omega) hi
       omega
      ·exact i2 i j hij (by omega) hi hj'
     ·by_cases ei : i = k
      ·subst ei; exact Int.le_refl _
      ·have := i3 i (by omega) ht'
       omega
    ·cases h
theorem D2.logOk {d : Dc} (h : D2 d) : LogOk d := by
 obtain ⟨last, e⟩ := h
 obtain ⟨h1, h2, h3⟩ := logTo_says _ e
 exact ⟨fun i hi => D2.entry ⟨last, e⟩ hi, fun i j hij hj => h2 i j hij hj, h1⟩
theorem LogOk.d2 {d : Dc} (h : LogOk d) : D2 d := by
 have main : ∀ k, k ≤ d.n → ∃ last, logTo d k = some (((livL d k).length : Int), last) ∧ (last = 0 ∨ ∃ i, i < k ∧ (d.L i).turn ≠ 0 ∧ (d.L i).turn = last) := by
  intro k
  induction k with
  | zero => intro _; exact ⟨0, rfl, .inl rfl⟩
  | succ k ih =>
   intro hk
   obtain ⟨last, e, hl⟩ := ih (by omega)
   rcases h.ent k (by omega) with ⟨ht, hn1, hn2⟩ | ⟨ht, h1, h2, h3, h4⟩
   ·refine ⟨last, ?_, ?_⟩
    ·rw [logTo_dead e ht, hn1, hn2, livL_dead ht]; rfl
    ·rcases hl with hl | ⟨i, h1, h2⟩
     ·exact .inl hl
     ·exact .inr ⟨i, by omega, h2⟩
   ·have ht' : (d.L k).turn ≠ 0 := by omega
    have hlt : last < (d.L k).turn := by
     rcases hl with hl | ⟨i, g1, g2, g3⟩
     ·omega
     ·have := h.ord i k g1 (by omega) g2 ht'
      omega
    refine ⟨(d.L k).turn, ?_, .inr ⟨k, by omega, ht', rfl⟩⟩
    have hp : pairB d.turns last (d.L k) = true := by unfold pairB; simp [hlt, h1, h2, h3, h4]
    rw [logTo_live e ht', if_pos hp, livL_live ht', List.length_append, List.length_singleton]
    congr 1
 obtain ⟨last, e, _⟩ := main d.n (Nat.le_refl _)
 exact ⟨last, by rw [e]; congr 1; rw [← h.cnt]; rfl⟩
def inX (d : Dc) (i : Nat) : Prop := i < d.n ∧ (d.L i).turn ≠ 0 ∧ ¬ smallK d.m (d.L i).key
structure Inv0 (K : Vl → Prop) (hf : Vl → Nat) (d : Dc) : Prop where
 log : LogOk d
 keys : ∀ i, i < d.n → (d.L i).turn ≠ 0 → K (d.L i).key
 dist : ∀ i j, i < d.n → j < d.n → (d.L i).turn ≠ 0 → (d.L j).turn ≠ 0 → likeB (d.L i).key (d.L j).key = true → i = j
 ints : ∀ j, j < d.m → okInt d j
 last : d.m = 0 ∨ 0 < d.I (d.m - 1)
 small : ∀ i, i < d.n → (d.L i).turn ≠ 0 → smallK d.m (d.L i).key → d.I ((d.L i).key.num - 1).toNat = i + 1
 sz : SizeX d.x
 idx : Idx hf d.L d.x d.X (inX d)
 used : (useN d.X d.x : Int) = d.used
 half : 2 * useN d.X d.x ≤ d.x
 turns : 0 ≤ d.turns ∧ d.turns ≤ 1000000000000
 le : d.live ≤ 500
def Next (d : Dc) : Prop := ∀ i, i < d.n → (d.L i).turn ≠ 0 → ¬ ((d.L i).key.kind = 2 ∧ (d.L i).key.num = (d.m : Int) + 1)
def Tight (d : Dc) : Prop := (d.n : Int) ≤ 8 ∨ (d.n : Int) ≤ 2 * d.live
structure Inv (K : Vl → Prop) (hf : Vl → Nat) (d : Dc) : Prop where
 i0 : Inv0 K hf d
 next : Next d
 tight : Tight d
theorem Inv0.d3 {K : Vl → Prop} {hf : Vl → Nat} {d : Dc} (h : Inv0 K hf d) : D3 d := ⟨h.ints, h.last⟩
theorem Inv0.d4 {K : Vl → Prop} {hf : Vl → Nat} {d : Dc} (h : Inv0 K hf d) : D4 d := by
 refine ⟨h.sz, fun j hj => ?_, by rw [usedTo_useN]; exact h.used, by rw [usedTo_useN]; exact h.half⟩
 rcases h.idx.range j hj with e | e | ⟨e, h1, h2, h3⟩
 ·exact .inl e
 ·exact .inr (.inl e)
 ·exact .inr (.inr ⟨e, by omega, h2, h3⟩)
theorem Inv.d1 {K : Vl → Prop} {hf : Vl → Nat} {d : Dc} (h : Inv K hf d) : D1 d := ⟨by have := h.i0.log.cnt; omega, h.i0.le, h.i0.turns.1, h.i0.turns.2, h.tight⟩
theorem probe_some {d : Dc} {v : Vl} (hx : 0 < d.x) : ∀ (f a s : Nat), a < d.x → f ≤ d.x → probe d v a f = some s → 0 < d.X s ∧ likeB (d.at (d.X s)).key v = true ∧ ∃ t, t < f ∧ s = (a + t) % d.x ∧ ∀ j, j < t → d.X ((a + j) % d.x) ≠ 0 := by
 intro f
 induction f with
 | zero => intro a s _ _ h; cases h
 | succ f ih =>
  intro a s ha hf h
  by_cases h0 : d.X a = 0
  ·rw [probe_zero h0] at h; cases h
  ·by_cases hl : 0 < d.X a ∧ likeB (d.at (d.X a)).key v = true
   ·rw [probe_hit hl.1 hl.2] at h
    cases h
    exact ⟨hl.1, hl.2, 0, by omega, by rw [Nat.add_zero, Nat.mod_eq_of_lt ha], fun j hj => by omega⟩
   ·rw [probe_next h0 hl] at h
    obtain ⟨h1, h2, t, h3, h4, h5⟩ := ih _ _ (Nat.mod_lt _ hx) (by omega) h
    refine ⟨h1, h2, t + 1, by omega, ?_, fun j hj => ?_⟩
    ·rw [h4, Nat.mod_add_mod]; congr 1; omega
    ·cases j with
     | zero => rw [Nat.add_zero, Nat.mod_eq_of_lt ha]; exact h0
     | succ j =>
      have := h5 j (by omega)
      rw [Nat.mod_add_mod] at this
      rwa [show a + (j + 1) = a + 1 + j by omega]
theorem probe_at {d : Dc} {v : Vl} (hx : 0 < d.x) : ∀ (t a f : Nat), a < d.x → t < f → (∀ j, j < t → d.X ((a + j) % d.x) ≠ 0 ∧ ¬ (0 < d.X ((a + j) % d.x) ∧ likeB (d.at (d.X ((a + j) % d.x))).key v = true)) → 0 < d.X ((a + t) % d.x) → likeB (d.at (d.X ((a + t) % d.x))).key v = true → probe d v a f = some ((a + t) % d.x) := by
 intro t
 induction t with
 | zero =>
  intro a f ha hf _ h1 h2
  obtain ⟨g, rfl⟩ : ∃ g, f = g + 1 := ⟨f - 1, by omega⟩
  have e : (a + 0) % d.x = a := Nat.mod_eq_of_lt ha
  rw [e] at h1 h2 ⊢
  exact probe_hit h1 h2
 | succ t ih =>
  intro a f ha hf h h1 h2
  obtain ⟨g, rfl⟩ : ∃ g, f = g + 1 := ⟨f - 1, by omega⟩
  have h0 := h 0 (by omega)
  rw [Nat.add_zero, Nat.mod_eq_of_lt ha] at h0
  rw [probe_next h0.1 h0.2]
  have e : ∀ j, ((a + 1) % d.x + j) % d.x = (a + (j + 1)) % d.x := fun j => by rw [Nat.mod_add_mod]; congr 1; omega
  have := ih ((a + 1) % d.x) g (Nat.mod_lt _ hx) (by omega) (fun j hj => by rw [e]; exact h (j + 1) (by omega)) (by rw [e]; exact h1) (by rw [e]; exact h2)
  rw [this, e]
theorem probe_none {d : Dc} {v : Vl} (hx : 0 < d.x) (h : ∀ s, s < d.x → ¬ (0 < d.X s ∧ likeB (d.at (d.X s)).key v = true)) : ∀ (f a : Nat), a < d.x → probe d v a f = none := by
 intro f
 induction f with
 | zero => intro a _; rfl
 | succ f ih =>
  intro a ha
  by_cases h0 : d.X a = 0
  ·exact probe_zero h0
  ·rw [probe_next h0 (h a ha)]
   exact ih _ (Nat.mod_lt _ hx)
section
variable {K : Vl → Prop} {hf : Vl → Nat} {d : Dc}
theorem Inv0.found (h : Inv0 K hf d) (KL : KeyLaw K hf) {v : Vl} (hv : K v) {i : Nat} (hi : inX d i) (hl : likeB (d.L i).key v = true) : ∃ s, s < d.x ∧ d.X s = i + 1 ∧ slotOf d v (hf v) = some s := by
 obtain ⟨s, hs, hX, t, ht, rfl, hne⟩ := h.idx.has i hi
 have hki := h.keys i hi.1 hi.2.1
 have hx : 0 < d.x := by omega
 rw [KL.hash _ _ hki hv hl] at hs hX hne
 refine ⟨_, hs, hX, ?_⟩
 unfold slotOf
 rw [if_neg (by omega)]
 have hat : (d.at ((i : Int) + 1)) = d.L i := by unfold Dc.at; congr 1; omega
 refine probe_at hx t _ _ (Nat.mod_lt _ hx) ht (fun j hj => ⟨hne j hj, fun hc => ?_⟩) (by rw [hX]; omega) (by rw [hX, hat]; exact hl)
 have hj1 : (hf v % d.x + j) % d.x < d.x := Nat.mod_lt _ hx
 rcases h.idx.range _ hj1 with e | e | ⟨e, hP⟩
 ·exact hne j hj e
 ·omega
 ·have hkj := h.keys _ hP.1 hP.2.1
  have hlk : likeB (d.L (d.X ((hf v % d.x + j) % d.x) - 1).toNat).key (d.L i).key = true := KL.trans _ _ _ hkj hv hki hc.2 (KL.symm _ _ hki hv hl)
  have := h.dist _ _ hP.1 hi.1 hP.2.1 hi.2.1 hlk
  have hXX : d.X ((hf v % d.x + j) % d.x) = d.X ((hf v % d.x + t) % d.x) := by rw [hX]; omega
  have hss := h.idx.uniq _ _ hj1 hs e hXX
  have : j = t := by
   have h1 : (hf v % d.x) < d.x := Nat.mod_lt _ hx
   have e1 : ∀ q, q < d.x → (hf v % d.x + q) % d.x = if hf v % d.x + q < d.x then hf v % d.x + q else hf v % d.x + q - d.x := by
    intro q hq
    by_cases e : hf v % d.x + q < d.x
    ·rw [if_pos e, Nat.mod_eq_of_lt e]
    ·rw [if_neg e, Nat.mod_eq_sub_mod (by omega), Nat.mod_eq_of_lt (by omega)]
   rw [e1 j (by omega), e1 t ht] at hss
   split at hss <;> split at hss <;> omega
  omega
theorem Inv0.lost (h : Inv0 K hf d) {v : Vl} {a : Nat} (hno : ∀ i, inX d i → likeB (d.L i).key v = false) : slotOf d v a = none := by
 unfold slotOf
 by_cases hx : d.x = 0
 ·rw [if_pos hx]
 ·rw [if_neg hx]
  refine probe_none (by omega) (fun s hs hc => ?_) _ _ (Nat.mod_lt _ (by omega))
  rcases h.idx.range s hs with e | e | ⟨e, hP⟩
  ·omega
  ·omega
  ·have := hno _ hP
   rw [hc.2] at this
   cases this
theorem slotOf_says {v : Vl} {a s : Nat} (e : slotOf d v a = some s) : s < d.x ∧ 0 < d.X s ∧ likeB (d.at (d.X s)).key v = true ∧ Reach d.x d.X (a % d.x) s := by
 unfold slotOf at e
 split at e
 ·cases e
 ·next hx =>
  obtain ⟨h1, h2, t, h3, h4, h5⟩ := probe_some (by omega) _ _ _ (Nat.mod_lt _ (by omega)) (Nat.le_refl _) e
  exact ⟨by rw [h4]; exact Nat.mod_lt _ (by omega), h1, h2, t, h3, h4, h5⟩
theorem Inv0.place (h : Inv0 K hf d) (KL : KeyLaw K hf) {v : Vl} (hv : K v) :
  (∃ i, i < d.n ∧ (d.L i).turn ≠ 0 ∧ likeB (d.L i).key v = true ∧ placeI d v (hf v) = i) ∨ ((∀ i, i < d.n → (d.L i).turn ≠ 0 → likeB (d.L i).key v = false) ∧ placeI d v (hf v) = -1) := by
 unfold placeI
 by_cases hs : smallK d.m v
 ·rw [if_pos hs]
  obtain ⟨k1, k2, k3⟩ := hs
  have hq : (v.num - 1).toNat < d.m := by omega
  rcases h.ints _ hq with e | ⟨e1, e2, e3, e4, e5⟩
  ·right
   refine ⟨fun i hi ht => ?_, by omega⟩
   cases hl : likeB (d.L i).key v
   ·rfl
   ·have := h.small i hi ht ((like_small hl).2 ⟨k1, k2, k3⟩)
    rw [like_num hl] at this
    omega
  ·left
   refine ⟨(d.I (v.num - 1).toNat - 1).toNat, by omega, e3, ?_, by omega⟩
   exact KL.int _ _ (h.keys _ (by omega) e3) hv e4 k1 (by rw [e5]; omega)
 ·rw [if_neg hs]
  by_cases hex : ∃ i, i < d.n ∧ (d.L i).turn ≠ 0 ∧ likeB (d.L i).key v = true
  ·obtain ⟨i, h1, h2, h3⟩ := hex
   obtain ⟨s, g1, g2, g3⟩ := h.found KL hv ⟨h1, h2, fun hh => hs ((like_small h3).1 hh)⟩ h3
   left
   refine ⟨i, h1, h2, h3, ?_⟩
   rw [g3]
   show d.X s - 1 = _
   omega
  ·have hno : ∀ i, i < d.n → (d.L i).turn ≠ 0 → likeB (d.L i).key v = false := fun i h1 h2 => by
    cases hl : likeB (d.L i).key v
    ·rfl
    ·exact absurd ⟨i, h1, h2, hl⟩ hex
   right
   refine ⟨hno, ?_⟩
   rw [h.lost (fun i hi => hno i hi.1 hi.2.1)]
   rfl
end
theorem cnt_zero {f : Nat → Int} {i : Nat} {k : Nat} (h : ∀ j, j < k → f j ≠ (i : Int) + 1) : cnt f i k = 0 := by
 induction k with
 | zero => rfl
 | succ k ih =>
  show (if _ then _ else _) = 0
  rw [if_neg (h k (by omega))]
  exact ih (fun j hj => h j (by omega))
theorem cnt_one {f : Nat → Int} {i s : Nat} : ∀ {k : Nat}, s < k → f s = (i : Int) + 1 → (∀ j, j < k → f j = (i : Int) + 1 → j = s) → cnt f i k = 1 := by
 intro k
 induction k with
 | zero => intro h; omega
 | succ k ih =>
  intro hs h1 h2
  show (if _ then _ else _) = 1
  by_cases e : k = s
  ·subst e
   rw [if_pos h1, cnt_zero (fun j hj e' => by have := h2 j (by omega) e'; omega)]
  ·rw [if_neg (fun e' => e (h2 k (by omega) e'))]
   exact ih (by omega) h1 (fun j hj => h2 j (by omega))
theorem cnt_pos {f : Nat → Int} {i s k : Nat} (hs : s < k) (h : f s = (i : Int) + 1) : 1 ≤ cnt f i k := by
 induction k with
 | zero => omega
 | succ k ih =>
  show 1 ≤ (if f k = (i : Int) + 1 then cnt f i k + 1 else cnt f i k)
  by_cases e : f k = (i : Int) + 1
  ·rw [if_pos e]; omega
  ·rw [if_neg e]
   exact ih (by
    have : s ≠ k := fun e' => e (e' ▸ h)
    omega)
theorem cnt_two {f : Nat → Int} {i s t k : Nat} (hs : s < t) (ht : t < k) (h : f s = (i : Int) + 1) (h' : f t = (i : Int) + 1) : 2 ≤ cnt f i k := by
 induction k with
 | zero => omega
 | succ k ih =>
  show 2 ≤ (if f k = (i : Int) + 1 then cnt f i k + 1 else cnt f i k)
  by_cases e : k = t
  ·subst e
   rw [if_pos h']
   have := cnt_pos (f := f) (i := i) hs h
   omega
  ·have := ih (by omega)
   by_cases e' : f k = (i : Int) + 1
   ·rw [if_pos e']; omega
   ·rw [if_neg e']; exact this
theorem Inv.sound {K : Vl → Prop} {hf : Vl → Nat} {d : Dc} (h : Inv K hf d) (KL : KeyLaw K hf) : Sound d (fun i => hf (d.L i).key) := by
 refine ⟨h.d1, h.i0.log.d2, h.i0.d3, h.i0.d4, fun i hi ht => ⟨?_, ?_, h.next i hi ht⟩⟩
 ·by_cases hs : smallK d.m (d.L i).key
  ·have h1 := h.i0.small i hi ht hs
   obtain ⟨k1, k2, k3⟩ := hs
   have hq : ((d.L i).key.num - 1).toNat < d.m := by omega
   rw [cnt_one (s := ((d.L i).key.num - 1).toNat) hq h1 (fun j hj e => ?_), cnt_zero (fun j hj e => ?_)]
   ·rcases h.i0.idx.range j hj with e' | e' | ⟨e', hP⟩
    ·omega
    ·omega
    ·rw [e, show (((i : Int) + 1 - 1).toNat) = i by omega] at hP
     exact hP.2.2 ⟨k1, k2, k3⟩
   ·rcases h.i0.ints j hj with e' | ⟨e1, e2, e3, e4, e5⟩
    ·omega
    ·unfold Dc.at at e5
     rw [e, show (((i : Int) + 1 - 1).toNat) = i by omega] at e5
     omega
  ·obtain ⟨s, h1, h2, h3⟩ := h.i0.idx.has i ⟨hi, ht, hs⟩
   rw [cnt_one (f := d.X) (s := s) h1 h2 (fun j hj e => h.i0.idx.uniq j s hj h1 (by omega) (by omega)), cnt_zero (fun j hj e => ?_)]
   rcases h.i0.ints j hj with e' | ⟨e1, e2, e3, e4, e5⟩
   ·omega
   ·unfold Dc.at at e4 e5
    rw [e, show (((i : Int) + 1 - 1).toNat) = i by omega] at e4 e5
    exact hs ⟨e4, by omega, by omega⟩
 ·rcases h.i0.place KL (h.i0.keys i hi ht) with ⟨j, h1, h2, h3, h4⟩ | ⟨h1, _⟩
  ·rw [h4, h.i0.dist j i h1 hi h2 ht h3]
  ·have := h1 i hi ht
   rw [KL.refl _ (h.i0.keys i hi ht)] at this
   cases this
theorem Sound.inv {K : Vl → Prop} {hf : Vl → Nat} {d : Dc} (h : Sound d (fun i => hf (d.L i).key)) (KL : KeyLaw K hf) (hK : ∀ i, i < d.n → (d.L i).turn ≠ 0 → K (d.L i).key) : Inv K hf d := by
 have same : ∀ a b, K a → K b → likeB a b = true → (∀ i, i < d.n → (d.L i).turn ≠ 0 → likeB (d.L i).key a = likeB (d.L i).key b) := by
  intro a b ha hb hab i hi ht
  cases e : likeB (d.L i).key b
  ·cases e' : likeB (d.L i).key a
   ·rfl
   ·rw [KL.trans _ _ _ (hK i hi ht) ha hb e' hab] at e; cases e
  ·exact KL.trans _ _ _ (hK i hi ht) hb ha e (KL.symm _ _ ha hb hab)
 have hslot : ∀ s, s < d.x → 0 < d.X s → inX d (d.X s - 1).toNat := fun s hs h0 => by
  rcases h.d4.2.1 s hs with e | e | ⟨e1, e2, e3, e4⟩
  ·omega
  ·omega
  ·exact ⟨by omega, e3, e4⟩
 have sameProbe : ∀ a b, K a → K b → likeB a b = true → 0 < d.x → ∀ f q, q < d.x → probe d a q f = probe d b q f := by
  intro a b ha hb hab hx f
  induction f with
  | zero => intro q _; rfl
  | succ f ih =>
   intro q hq
   by_cases h0 : d.X q = 0
   ·rw [probe_zero h0, probe_zero h0]
   ·by_cases hp : 0 < d.X q
    ·have hin := hslot q hq hp
     have hs := same a b ha hb hab _ hin.1 hin.2.1
     by_cases hl : likeB (d.at (d.X q)).key a = true
     ·rw [probe_hit hp hl, probe_hit hp (hs ▸ hl)]
     ·rw [probe_next h0 (fun h => hl h.2), probe_next h0 (fun h => hl (hs.symm ▸ h.2)), ih _ (Nat.mod_lt _ hx)]
    ·rw [probe_next h0 (fun h => hp h.1), probe_next h0 (fun h => hp h.1), ih _ (Nat.mod_lt _ hx)]
 have samePlace : ∀ a b, K a → K b → likeB a b = true → placeI d a (hf a) = placeI d b (hf b) := by
  intro a b ha hb hab
  unfold placeI
  by_cases hs : smallK d.m a
  ·rw [if_pos hs, if_pos ((like_small hab).1 hs), like_num hab]
  ·rw [if_neg hs, if_neg (fun h => hs ((like_small hab).2 h)), KL.hash a b ha hb hab]
   congr 1
   unfold slotOf
   by_cases hx : d.x = 0
   ·rw [if_pos hx, if_pos hx]
   ·rw [if_neg hx, if_neg hx]
    exact sameProbe a b ha hb hab (by omega) _ _ (Nat.mod_lt _ (by omega))
 refine ⟨⟨h.d2.logOk, hK, fun i j hi hj ti tj hl => ?_, h.d3.1, h.d3.2, fun i hi ht hs => ?_, h.d4.1, ⟨fun s hs => ?_, fun i hi => ?_, fun s s' hs hs' h0 e => ?_⟩, by rw [← usedTo_useN]; exact h.d4.2.2.1, by rw [← usedTo_useN]; exact h.d4.2.2.2, ⟨h.d1.2.2.1, h.d1.2.2.2.1⟩, h.d1.2.1⟩, fun i hi ht => (h.d5 i hi ht).2.2, h.d1.2.2.2.2⟩
 ·have h1 := (h.d5 i hi ti).2.1
  have h2 := (h.d5 j hj tj).2.1
  have h3 := samePlace _ _ (hK i hi ti) (hK j hj tj) hl
  omega
 ·have h1 := (h.d5 i hi ht).2.1
  unfold placeI at h1
  rw [if_pos hs] at h1
  omega
 ·rcases h.d4.2.1 s hs with e | e | e
  ·exact .inl e
  ·exact .inr (.inl e)
  ·exact .inr (.inr ⟨e.1, hslot s hs e.1⟩)
 ·have h1 := (h.d5 i hi.1 hi.2.1).2.1
  unfold placeI at h1
  rw [if_neg hi.2.2] at h1
  cases e : slotOf d (d.L i).key (hf (d.L i).key) with
  | none => rw [e] at h1; have h1 : (-1 : Int) = i := h1; omega
  | some s =>
   rw [e] at h1
   have h1 : d.X s - 1 = i := h1
   obtain ⟨g1, g2, g3, g4⟩ := slotOf_says e
   exact ⟨s, g1, by omega, g4⟩
 ·have hin := hslot s hs h0
  have h1 := (h.d5 _ hin.1 hin.2.1).1
  by_cases e' : s = s'
  ·exact e'
  ·exfalso
   have e1 : d.X s = (((d.X s - 1).toNat : Nat) : Int) + 1 := by omega
   by_cases hlt : s < s'
   ·have := cnt_two (f := d.X) (i := (d.X s - 1).toNat) hlt hs' e1 (by omega)
    omega
   ·have := cnt_two (f := d.X) (i := (d.X s - 1).toNat) (s := s') (t := s) (by omega) hs (by omega) e1
    omega
end
section
open Go.RowKit
structure Core (K : Vl → Prop) (d : Dc) : Prop where
 log : LogOk d
 keys : ∀ i, i < d.n → (d.L i).turn ≠ 0 → K (d.L i).key
 dist : ∀ i j, i < d.n → j < d.n → (d.L i).turn ≠ 0 → (d.L j).turn ≠ 0 → likeB (d.L i).key (d.L j).key = true → i = j
 ints : ∀ j, j < d.m → okInt d j
 last : d.m = 0 ∨ 0 < d.I (d.m - 1)
 small : ∀ i, i < d.n → (d.L i).turn ≠ 0 → smallK d.m (d.L i).key → d.I ((d.L i).key.num - 1).toNat = i + 1
 turns : 0 ≤ d.turns ∧ d.turns ≤ 1000000000000
 le : d.live ≤ 500
structure Ix (hf : Vl → Nat) (d : Dc) : Prop where
 sz : SizeX d.x
 idx : Idx hf d.L d.x d.X (inX d)
 used : (useN d.X d.x : Int) = d.used
 half : 2 * useN d.X d.x ≤ d.x
theorem Inv0.core {K : Vl → Prop} {hf : Vl → Nat} {d : Dc} (h : Inv0 K hf d) : Core K d := ⟨h.log, h.keys, h.dist, h.ints, h.last, h.small, h.turns, h.le⟩
theorem Core.inv0 {K : Vl → Prop} {hf : Vl → Nat} {d : Dc} (h : Core K d) (g : Ix hf d) : Inv0 K hf d := ⟨h.log, h.keys, h.dist, h.ints, h.last, h.small, g.sz, g.idx, g.used, g.half, h.turns, h.le⟩
theorem Core.pos {K : Vl → Prop} {d : Dc} (h : Core K d) {i : Nat} (hi : i < d.n) (ht : (d.L i).turn ≠ 0) : 0 < (d.L i).turn := by
 rcases h.log.ent i hi with e | e
 ·exact absurd e.1 ht
 ·exact e.1
open Classical in
noncomputable def idxN (d : Dc) : Nat → Nat
 | 0 => 0
 | k + 1 => if indexedK d k then idxN d k + 1 else idxN d k
theorem idxN_yes {d : Dc} {k : Nat} (h : indexedK d k) : idxN d (k + 1) = idxN d k + 1 := if_pos h
theorem idxN_no {d : Dc} {k : Nat} (h : ¬ indexedK d k) : idxN d (k + 1) = idxN d k := if_neg h
theorem idxN_le (d : Dc) (k : Nat) : idxN d k ≤ (livL d k).length := by
 induction k with
 | zero => exact Nat.le_refl _
 | succ k ih =>
  by_cases h : indexedK d k
  ·have := h.1
   rw [idxN_yes h, livL_live (by omega), List.length_append, List.length_singleton]
   omega
  ·rw [idxN_no h]
   refine Nat.le_trans ih ?_
   exact (livL_prefix (d := d) (k := k) (n := k + 1) (by omega)).length_le
theorem idxN_mono (d : Dc) {k n : Nat} (h : k ≤ n) : idxN d k ≤ idxN d n := by
 obtain ⟨j, rfl⟩ : ∃ j, n = k + j := ⟨n - k, by omega⟩
 clear h
 induction j with
 | zero => exact Nat.le_refl _
 | succ j ih =>
  refine Nat.le_trans ih ?_
  by_cases h : indexedK d (k + j)
  ·rw [show k + (j + 1) = k + j + 1 by omega, idxN_yes h]; omega
  ·rw [show k + (j + 1) = k + j + 1 by omega, idxN_no h]; exact Nat.le_refl _
def sizeGo : Nat → Nat → Nat → Nat
 | 0, s, _ => s
 | f + 1, s, q => if s < q then sizeGo f (2 * s) q else s
def sizeFor (n : Nat) : Nat := sizeGo 9 8 (4 * n)
theorem sizeGo_says : ∀ (f s q : Nat), q ≤ 2000 → Pow2 s → 8 ≤ s → s ≤ 4000 → 2000 ≤ s * 2 ^ f → q ≤ sizeGo f s q ∧ 8 ≤ sizeGo f s q ∧ sizeGo f s q ≤ 4000 ∧ Pow2 (sizeGo f s q) := by
 intro f
 induction f with
 | zero =>
  intro s q h1 h2 h3 h4 h5
  exact ⟨by show q ≤ s; omega, h3, h4, h2⟩
 | succ f ih =>
  intro s q h1 h2 h3 h4 h5
  show q ≤ (if s < q then sizeGo f (2 * s) q else s) ∧ _ ≤ (if s < q then sizeGo f (2 * s) q else s) ∧ (if s < q then sizeGo f (2 * s) q else s) ≤ _ ∧ Pow2 (if s < q then sizeGo f (2 * s) q else s)
  by_cases e : s < q
  ·rw [if_pos e]
   obtain ⟨k, rfl⟩ := h2
   refine ih _ _ h1 ⟨k + 1, by rw [Nat.pow_succ]; omega⟩ (by omega) (by omega) ?_
   rw [Nat.pow_succ, ← Nat.mul_assoc, Nat.mul_comm (2 ^ k * 2 ^ f) 2, ← Nat.mul_assoc] at h5
   exact h5
  ·rw [if_neg e]
   exact ⟨by omega, h3, h4, h2⟩
theorem sizeFor_says {n : Nat} (h : n ≤ 500) : 4 * n ≤ sizeFor n ∧ 8 ≤ sizeFor n ∧ sizeFor n ≤ 4000 ∧ Pow2 (sizeFor n) :=
 sizeGo_says 9 8 (4 * n) (by omega) ⟨3, rfl⟩ (by omega) (by omega) (by decide)
open Classical in
noncomputable def refill (hf : Vl → Nat) (d : Dc) (x : Nat) : Nat → Dc
 | 0 => { d with x := x, X := fun _ => 0, used := 0 }
 | k + 1 => if indexedK d k then enterD hf (refill hf d x k) (d.L k).key k else refill hf d x k
theorem refill_yes {hf : Vl → Nat} {d : Dc} {x k : Nat} (h : indexedK d k) : refill hf d x (k + 1) = enterD hf (refill hf d x k) (d.L k).key k := if_pos h
theorem refill_no {hf : Vl → Nat} {d : Dc} {x k : Nat} (h : ¬ indexedK d k) : refill hf d x (k + 1) = refill hf d x k := if_neg h
theorem refill_says {hf : Vl → Nat} {d : Dc} {x : Nat} : ∀ k, idxN d k < x →
  Idx hf d.L x (refill hf d x k).X (fun i => i < k ∧ indexedK d i) ∧ (useN (refill hf d x k).X x : Int) = (refill hf d x k).used ∧ useN (refill hf d x k).X x ≤ idxN d k ∧ (refill hf d x k).x = x ∧ (refill hf d x k).n = d.n ∧ (refill hf d x k).L = d.L ∧ (refill hf d x k).m = d.m ∧ (refill hf d x k).I = d.I ∧ (refill hf d x k).live = d.live ∧ (refill hf d x k).turns = d.turns := by
 intro k
 induction k with
 | zero =>
  intro _
  exact ⟨Idx.empty _ _ _ _ (fun i h => by omega), by show (useN (fun _ => 0) x : Int) = 0; rw [useN_zero]; rfl, by show useN (fun _ => 0) x ≤ 0; rw [useN_zero]; exact Nat.le_refl _, rfl, rfl, rfl, rfl, rfl, rfl, rfl⟩
 | succ k ih =>
  intro hlt
  by_cases h : indexedK d k
  ·rw [idxN_yes h] at hlt
   obtain ⟨h1, h2, h3, h4, h5, h6, h7, h8, h9, h10⟩ := ih (by omega)
   rw [refill_yes h, idxN_yes h]
   obtain ⟨g1, g2, g3, g4, g5, g6, g7, g8, g9, g10⟩ := enterD_idx (d := refill hf d x k) (L := d.L) (k := (d.L k).key) (p := k) (by rw [h4]; exact h1) (fun e => by omega) rfl (by rw [h4]; omega) (by rw [h4]; exact h2)
   rw [h4] at g3
   rw [g3] at g1 g2
   rw [h4] at g10
   refine ⟨g1.congr (fun i => ?_) (fun _ _ => rfl), g2, by omega, g3, g4.trans h5, g5.trans h6, g6.trans h7, g7.trans h8, g8.trans h9, g9.trans h10⟩
   constructor
   ·rintro ⟨e1, e2⟩
    by_cases e : i = k
    ·exact .inr e
    ·exact .inl ⟨by omega, e2⟩
   ·rintro (⟨e1, e2⟩ | rfl)
    ·exact ⟨by omega, e2⟩
    ·exact ⟨by omega, h⟩
  ·rw [idxN_no h] at hlt ⊢
   obtain ⟨h1, h2, h3⟩ := ih hlt
   rw [refill_no h]
   refine ⟨h1.congr (fun i => ?_) (fun _ _ => rfl), h2, h3⟩
   constructor
   ·rintro ⟨e1, e2⟩
    exact ⟨by
     have : i ≠ k := fun e => h (e ▸ e2)
     omega, e2⟩
   ·rintro ⟨e1, e2⟩
    exact ⟨by omega, e2⟩
noncomputable def reindexD (hf : Vl → Nat) (d : Dc) (more : Nat) : Dc :=
 if idxN d d.n + more = 0 then { d with x := 0, used := 0 } else refill hf d (sizeFor (idxN d d.n + more)) d.n
theorem reindexD_none {hf : Vl → Nat} {d : Dc} {more : Nat} (h : idxN d d.n + more = 0) : reindexD hf d more = { d with x := 0, used := 0 } := if_pos h
theorem reindexD_some {hf : Vl → Nat} {d : Dc} {more : Nat} (h : idxN d d.n + more ≠ 0) : reindexD hf d more = refill hf d (sizeFor (idxN d d.n + more)) d.n := if_neg h
structure SameLog (d c : Dc) : Prop where
 n : d.n = c.n
 L : d.L = c.L
 m : d.m = c.m
 I : d.I = c.I
 live : d.live = c.live
 turns : d.turns = c.turns
theorem Core.of_same {K : Vl → Prop} {d c : Dc} (h : Core K c) (e : SameLog d c) : Core K d := by
 obtain ⟨n, L, m, I, x, X, used, live, turns⟩ := d
 obtain ⟨n', L', m', I', x', X', used', live', turns'⟩ := c
 obtain ⟨rfl, rfl, rfl, rfl, rfl, rfl⟩ := e
 exact ⟨⟨h.log.ent, h.log.ord, h.log.cnt⟩, h.keys, h.dist, h.ints, h.last, h.small, h.turns, h.le⟩
theorem reindexD_same {K : Vl → Prop} {hf : Vl → Nat} {d : Dc} {more : Nat} (h : Core K d) (hm : idxN d d.n + more ≤ 500) : SameLog (reindexD hf d more) d := by
 by_cases e : idxN d d.n + more = 0
 ·rw [reindexD_none e]; exact ⟨rfl, rfl, rfl, rfl, rfl, rfl⟩
 ·rw [reindexD_some e]
  obtain ⟨s1, s2, s3, s4⟩ := sizeFor_says hm
  obtain ⟨h1, h2, h3, h4, h5, h6, h7, h8, h9, h10⟩ := refill_says (hf := hf) (d := d) (x := sizeFor (idxN d d.n + more)) d.n (by omega)
  exact ⟨h5, h6, h7, h8, h9, h10⟩
theorem reindexD_ix {K : Vl → Prop} {hf : Vl → Nat} {d : Dc} {more : Nat} (h : Core K d) (hm : idxN d d.n + more ≤ 500) : Ix hf (reindexD hf d more) ∧ (0 < more → 2 * (useN (reindexD hf d more).X (reindexD hf d more).x + 1) ≤ (reindexD hf d more).x) := by
 by_cases e : idxN d d.n + more = 0
 ·rw [reindexD_none e]
  refine ⟨⟨.inl rfl, ⟨fun s hs => absurd hs (by simp), fun i hi => ?_, fun s s' hs => absurd hs (by simp)⟩, rfl, Nat.le_refl _⟩, fun h => by omega⟩
  exfalso
  have hi : i < d.n ∧ (d.L i).turn ≠ 0 ∧ ¬ smallK d.m (d.L i).key := hi
  have h1 : indexedK d i := ⟨h.pos hi.1 hi.2.1, hi.2.2⟩
  have h2 := idxN_mono d (k := i + 1) (n := d.n) (by omega)
  rw [idxN_yes h1] at h2
  omega
 ·rw [reindexD_some e]
  obtain ⟨s1, s2, s3, s4⟩ := sizeFor_says hm
  obtain ⟨h1, h2, h3, h4, h5, h6, h7, h8, h9, h10⟩ := refill_says (hf := hf) (d := d) (x := sizeFor (idxN d d.n + more)) d.n (by omega)
  refine ⟨⟨by rw [h4]; exact .inr ⟨s2, s3, s4⟩, ?_, by rw [h4]; exact h2, by rw [h4]; omega⟩, fun hp => by rw [h4]; omega⟩
  rw [h4, h6]
  refine h1.congr (fun i => ?_) (fun _ _ => rfl)
  unfold inX indexedK
  rw [h5, h6, h7]
  constructor
  ·rintro ⟨e1, e2, e3⟩; exact ⟨e1, h.pos e1 e2, e3⟩
  ·rintro ⟨e1, e2, e3⟩; exact ⟨e1, by omega, e3⟩
theorem reindexD_inv {K : Vl → Prop} {hf : Vl → Nat} {d : Dc} {more : Nat} (h : Core K d) (hm : idxN d d.n + more ≤ 500) : Inv0 K hf (reindexD hf d more) :=
 (h.of_same (reindexD_same h hm)).inv0 (reindexD_ix h hm).1
def rank (d : Dc) (i : Nat) : Nat := (livL d i).length
theorem rank_lt {d : Dc} {i j : Nat} (hij : i < j) (ht : (d.L i).turn ≠ 0) : rank d i < rank d j := by
 have h := (livL_prefix (d := d) (k := i + 1) (n := j) (by omega)).length_le
 rw [livL_live ht, List.length_append, List.length_singleton] at h
 exact h
theorem rank_surj {d : Dc} : ∀ (k : Nat) {j : Nat}, j < (livL d k).length → ∃ i, i < k ∧ (d.L i).turn ≠ 0 ∧ rank d i = j := by
 intro k
 induction k with
 | zero => intro j h; exact absurd h (by simp [livL])
 | succ k ih =>
  intro j h
  by_cases ht : (d.L k).turn = 0
  ·rw [livL_dead ht] at h
   obtain ⟨i, h1, h2⟩ := ih h
   exact ⟨i, by omega, h2⟩
  ·by_cases e : j < (livL d k).length
   ·obtain ⟨i, h1, h2⟩ := ih e
    exact ⟨i, by omega, h2⟩
   ·rw [livL_live ht, List.length_append, List.length_singleton] at h
    exact ⟨k, by omega, ht, by unfold rank; omega⟩
def packD (d : Dc) : Dc := { d with n := lvN d, L := lvF d, I := fun j => if 0 < d.I j then (rank d (d.I j - 1).toNat : Int) + 1 else d.I j }
noncomputable def compactD (hf : Vl → Nat) (d : Dc) : Dc := if (d.n : Int) < 8 ∨ (d.n : Int) ≤ 2 * d.live then d else reindexD hf (packD d) 0
theorem livL_all {d : Dc} : ∀ k, (∀ i, i < k → (d.L i).turn ≠ 0) → (livL d k).length = k := by
 intro k
 induction k with
 | zero => intro _; rfl
 | succ k ih =>
  intro h
  rw [livL_live (h k (by omega)), List.length_append, List.length_singleton, ih (fun i hi => h i (by omega))]
theorem packD_core {K : Vl → Prop} {d : Dc} (h : Core K d) : Core K (packD d) := by
 have hs : ∀ j, j < lvN d → ∃ i, i < d.n ∧ (d.L i).turn ≠ 0 ∧ rank d i = j ∧ lvF d j = d.L i := fun j hj => by
  obtain ⟨i, h1, h2, h3⟩ := rank_surj d.n hj
  exact ⟨i, h1, h2, h3, by rw [← h3]; exact lvF_at h1 h2⟩
 have hr : ∀ i, i < d.n → (d.L i).turn ≠ 0 → rank d i < lvN d ∧ lvF d (rank d i) = d.L i := fun i hi ht => ⟨rank_lt hi ht, lvF_at hi ht⟩
 have hor : ∀ i j, i < d.n → j < d.n → (d.L i).turn ≠ 0 → (d.L j).turn ≠ 0 → rank d i < rank d j → i < j := by
  intro i j hi hj ti tj hlt
  by_cases e : i < j
  ·exact e
  ·by_cases e' : i = j
   ·subst e'; omega
   ·have := rank_lt (d := d) (i := j) (j := i) (by omega) tj
    omega
 refine ⟨⟨fun j hj => ?_, fun i j hij hj ti tj => ?_, ?_⟩, fun j hj ht => ?_, fun i j hi hj ti tj hl => ?_, fun j hj => ?_, ?_, fun j hj ht hsm => ?_, h.turns, h.le⟩
 ·obtain ⟨i, h1, h2, h3, h4⟩ := hs j hj
  have := h.log.ent i h1
  unfold Entry at this ⊢
  show (lvF d j).turn = 0 ∧ _ ∨ _
  show ((lvF d j).turn = 0 ∧ noneB (lvF d j).key = true ∧ noneB (lvF d j).val = true) ∨ (0 < (lvF d j).turn ∧ (lvF d j).turn ≤ d.turns ∧ keyB (lvF d j).key = true ∧ (lvF d j).val.ok = true ∧ (lvF d j).val.kind ≠ 0)
  rw [h4]
  exact this
 ·have hj' : j < lvN d := hj
  obtain ⟨a, a1, a2, a3, a4⟩ := hs i (by omega)
  obtain ⟨b, b1, b2, b3, b4⟩ := hs j hj'
  show (lvF d i).turn < (lvF d j).turn
  rw [a4, b4]
  exact h.log.ord a b (hor a b a1 b1 a2 b2 (by omega)) b1 a2 b2
 ·show ((livL (packD d) (lvN d)).length : Int) = d.live
  rw [livL_all (d := packD d) (lvN d) (fun j hj => ?_)]
  ·exact h.log.cnt
  ·obtain ⟨i, h1, h2, h3, h4⟩ := hs j hj
   show (lvF d j).turn ≠ 0
   rw [h4]; exact h2
 ·obtain ⟨i, h1, h2, h3, h4⟩ := hs j hj
  show K (lvF d j).key
  rw [h4]
  exact h.keys i h1 h2
 ·obtain ⟨a, a1, a2, a3, a4⟩ := hs i hi
  obtain ⟨b, b1, b2, b3, b4⟩ := hs j hj
  have hl : likeB (lvF d i).key (lvF d j).key = true := hl
  rw [a4, b4] at hl
  have := h.dist a b a1 b1 a2 b2 hl
  subst this
  omega
 ·rcases h.ints j hj with e | ⟨e1, e2, e3, e4, e5⟩
  ·left
   show (if 0 < d.I j then (rank d (d.I j - 1).toNat : Int) + 1 else d.I j) = 0
   rw [if_neg (by omega)]
   exact e
  ·right
   have hI : (packD d).I j = (rank d (d.I j - 1).toNat : Int) + 1 := if_pos e1
   have hr' := hr (d.I j - 1).toNat (by omega) e3
   have hat : (packD d).at ((packD d).I j) = d.at (d.I j) := by
    show lvF d ((packD d).I j - 1).toNat = d.L (d.I j - 1).toNat
    rw [hI, show ((rank d (d.I j - 1).toNat : Int) + 1 - 1).toNat = rank d (d.I j - 1).toNat by omega]
    exact hr'.2
   rw [hat, hI]
   exact ⟨by omega, by show _ ≤ ((lvN d : Nat) : Int); omega, e3, e4, e5⟩
 ·rcases h.last with e | e
  ·exact .inl e
  ·right
   show 0 < (if 0 < d.I (d.m - 1) then (rank d (d.I (d.m - 1) - 1).toNat : Int) + 1 else d.I (d.m - 1))
   rw [if_pos e]
   omega
 ·obtain ⟨i, h1, h2, h3, h4⟩ := hs j hj
  have hsm : smallK d.m (lvF d j).key := hsm
  show (if 0 < d.I ((lvF d j).key.num - 1).toNat then (rank d (d.I ((lvF d j).key.num - 1).toNat - 1).toNat : Int) + 1 else _) = _
  rw [h4] at hsm ⊢
  have := h.small i h1 h2 hsm
  rw [this, if_pos (by omega), show ((i : Int) + 1 - 1).toNat = i by omega, h3]
theorem Core.live_n {K : Vl → Prop} {d : Dc} (h : Core K d) : (lvN d : Int) = d.live := h.log.cnt
theorem packD_idx {K : Vl → Prop} {d : Dc} (h : Core K d) : idxN (packD d) (packD d).n + 0 ≤ 500 := by
 have h1 := idxN_le (packD d) (packD d).n
 have h2 := livL_le (packD d) (packD d).n
 have h3 : (packD d).n = lvN d := rfl
 have h4 := h.live_n
 have h5 := h.le
 omega
theorem compactD_inv {K : Vl → Prop} {hf : Vl → Nat} {d : Dc} (h : Inv0 K hf d) : Inv0 K hf (compactD hf d) := by
 unfold compactD
 split
 ·exact h
 ·exact reindexD_inv (packD_core h.core) (packD_idx h.core)
theorem compactD_live {K : Vl → Prop} {hf : Vl → Nat} {d : Dc} (h : Core K d) : (compactD hf d).live = d.live ∧ (compactD hf d).turns = d.turns ∧ (compactD hf d).m = d.m ∧ (((compactD hf d).n : Int) < 8 ∨ ((compactD hf d).n : Int) ≤ 2 * d.live) := by
 unfold compactD
 split
 ·next e => exact ⟨rfl, rfl, rfl, e⟩
 ·have := reindexD_same (hf := hf) (packD_core h) (packD_idx h)
  refine ⟨this.live, this.turns, this.m, .inr ?_⟩
  rw [this.n]
  have h4 := h.live_n
  show ((lvN d : Nat) : Int) ≤ _
  omega
theorem compactD_pairs {K : Vl → Prop} {hf : Vl → Nat} {d : Dc} (h : Core K d) (Q : Pr → Prop) : (∃ i, i < (compactD hf d).n ∧ ((compactD hf d).L i).turn ≠ 0 ∧ Q ((compactD hf d).L i)) ↔ ∃ i, i < d.n ∧ (d.L i).turn ≠ 0 ∧ Q (d.L i) := by
 unfold compactD
 split
 ·exact Iff.rfl
 ·have e := reindexD_same (hf := hf) (packD_core h) (packD_idx h)
  rw [e.n, e.L]
  constructor
  ·rintro ⟨j, hj, ht, hq⟩
   obtain ⟨i, h1, h2, h3⟩ := rank_surj d.n (show j < (livL d d.n).length from hj)
   have h4 : lvF d j = d.L i := by rw [← h3]; exact lvF_at h1 h2
   have hq : Q (lvF d j) := hq
   rw [h4] at hq
   exact ⟨i, h1, h2, hq⟩
  ·rintro ⟨i, hi, ht, hq⟩
   refine ⟨rank d i, rank_lt hi ht, ?_, ?_⟩
   ·show (lvF d (rank d i)).turn ≠ 0
    rw [show lvF d (rank d i) = d.L i from lvF_at hi ht]; exact ht
   ·show Q (lvF d (rank d i))
    rw [show lvF d (rank d i) = d.L i from lvF_at hi ht]; exact hq
theorem compactD_next {K : Vl → Prop} {hf : Vl → Nat} {d : Dc} (h : Core K d) (hn : Next d) : Next (compactD hf d) := by
 intro i hi ht hc
 rw [(compactD_live (hf := hf) h).2.2.1] at hc
 obtain ⟨j, h1, h2, h3⟩ := (compactD_pairs (hf := hf) h (fun p => p.key.kind = 2 ∧ p.key.num = (d.m : Int) + 1)).1 ⟨i, hi, ht, hc⟩
 exact hn j h1 h2 h3
theorem livL_congr {d c : Dc} : ∀ (k : Nat), (∀ i, i < k → ((d.L i).turn = 0 ↔ (c.L i).turn = 0)) → livL d k = livL c k := by
 intro k
 induction k with
 | zero => intro _; rfl
 | succ k ih =>
  intro h
  have := h k (by omega)
  by_cases e : (d.L k).turn = 0
  ·rw [livL_dead e, livL_dead (this.1 e), ih (fun i hi => h i (by omega))]
  ·rw [livL_live e, livL_live (fun e' => e (this.2 e')), ih (fun i hi => h i (by omega))]
def addL (c : Dc) (k v : Vl) : Dc := { c with n := c.n + 1, L := upd c.L c.n ⟨k, v, c.turns + 1⟩, live := c.live + 1, turns := c.turns + 1 }
section
variable {K : Vl → Prop} {hf : Vl → Nat} {c : Dc} {k v : Vl}
theorem addL_old {i : Nat} (h : i < c.n) : (addL c k v).L i = c.L i := upd_other _ _ (by omega)
theorem addL_new : (addL c k v).L c.n = ⟨k, v, c.turns + 1⟩ := upd_same _ _ _
theorem addL_log (h : LogOk c) (ht : 0 ≤ c.turns) (hk : keyB k = true) (hv : v.ok = true) (hv0 : v.kind ≠ 0) : LogOk (addL c k v) := by
 refine ⟨fun i hi => ?_, fun i j hij hj ti tj => ?_, ?_⟩
 ·have hi : i < c.n + 1 := hi
  by_cases e : i = c.n
  ·subst e
   right
   rw [addL_new]
   exact ⟨by show 0 < c.turns + 1; omega, Int.le_refl _, hk, hv, hv0⟩
  ·have := h.ent i (by omega)
   unfold Entry at this ⊢
   rw [addL_old (by omega)]
   refine this.imp id (fun g => ⟨g.1, ?_, g.2.2⟩)
   show _ ≤ c.turns + 1
   omega
 ·have hj : j < c.n + 1 := hj
  by_cases e : j = c.n
  ·subst e
   rw [addL_old hij] at ti ⊢
   rw [addL_new]
   rcases h.ent i hij with g | g
   ·exact absurd g.1 ti
   ·show _ < c.turns + 1
    omega
  ·rw [addL_old (by omega)] at ti ⊢
   rw [addL_old (by omega)] at tj ⊢
   exact h.ord i j hij (by omega) ti tj
 ·show ((livL (addL c k v) (c.n + 1)).length : Int) = c.live + 1
  rw [livL_live (by rw [addL_new]; show c.turns + 1 ≠ 0; omega), List.length_append, List.length_singleton, livL_congr (d := addL c k v) (c := c) c.n (fun i hi => by rw [addL_old hi])]
  have : ((livL c c.n).length : Int) = c.live := h.cnt
  omega
theorem addL_keys (h : Core K c) (hk : K k) : ∀ i, i < (addL c k v).n → ((addL c k v).L i).turn ≠ 0 → K ((addL c k v).L i).key := by
 intro i hi ht
 have hi : i < c.n + 1 := hi
 by_cases e : i = c.n
 ·subst e; rw [addL_new]; exact hk
 ·rw [addL_old (by omega)] at ht ⊢; exact h.keys i (by omega) ht
theorem addL_dist (KL : KeyLaw K hf) (h : Core K c) (hk : K k) (hno : ∀ i, i < c.n → (c.L i).turn ≠ 0 → likeB (c.L i).key k = false) : ∀ i j, i < (addL c k v).n → j < (addL c k v).n → ((addL c k v).L i).turn ≠ 0 → ((addL c k v).L j).turn ≠ 0 → likeB ((addL c k v).L i).key ((addL c k v).L j).key = true → i = j := by
 intro i j hi hj ti tj hl
 have hi : i < c.n + 1 := hi
 have hj : j < c.n + 1 := hj
 by_cases e : i = c.n
 ·by_cases e' : j = c.n
  ·omega
  ·subst e
   rw [addL_new, addL_old (by omega)] at hl
   rw [addL_old (by omega)] at tj
   have := KL.symm _ _ hk (h.keys j (by omega) tj) hl
   rw [hno j (by omega) tj] at this
   cases this
 ·by_cases e' : j = c.n
  ·subst e'
   rw [addL_new, addL_old (by omega)] at hl
   rw [addL_old (by omega)] at ti
   rw [hno i (by omega) ti] at hl
   cases hl
  ·rw [addL_old (by omega)] at ti
   rw [addL_old (by omega)] at tj
   rw [addL_old (i := i) (by omega), addL_old (i := j) (by omega)] at hl
   exact h.dist i j (by omega) (by omega) ti tj hl
def addSmall (c : Dc) (k v : Vl) : Dc := { addL c k v with I := upd c.I (k.num - 1).toNat ((c.n : Int) + 1) }
theorem okInt_add {j : Nat} (h : okInt c j) {d : Dc} (hn : d.n = c.n + 1) (hL : ∀ i, i < c.n → d.L i = c.L i) (hI : d.I j = c.I j) : okInt d j := by
 unfold okInt at *
 rw [hI, hn]
 rcases h with e | ⟨e1, e2, e3, e4, e5⟩
 ·exact .inl e
 ·right
  have : d.at (c.I j) = c.at (c.I j) := hL _ (by omega)
  rw [this]
  exact ⟨e1, by omega, e3, e4, e5⟩
theorem addSmall_inv (KL : KeyLaw K hf) (h : Inv0 K hf c) (hk : K k) (hkb : keyB k = true) (hv : v.ok = true) (hv0 : v.kind ≠ 0) (hno : ∀ i, i < c.n → (c.L i).turn ≠ 0 → likeB (c.L i).key k = false) (hs : smallK c.m k) (hl : c.live < 500) (ht : c.turns < 1000000000000) : Inv0 K hf (addSmall c k v) := by
 have hlog := addL_log h.log h.turns.1 hkb hv hv0
 obtain ⟨k1, k2, k3⟩ := hs
 refine (Core.inv0 ⟨⟨hlog.ent, hlog.ord, hlog.cnt⟩, addL_keys h.core hk, addL_dist KL h.core hk hno, fun j hj => ?_, ?_, fun i hi hti hsm => ?_, ⟨by show 0 ≤ c.turns + 1; have := h.turns.1; omega, by show c.turns + 1 ≤ _; omega⟩, by show c.live + 1 ≤ 500; omega⟩ ⟨h.sz, ?_, h.used, h.half⟩)
 ·by_cases e : j = (k.num - 1).toNat
  ·right
   have hI : (addSmall c k v).I j = (c.n : Int) + 1 := by subst e; exact upd_same _ _ _
   have hat : (addSmall c k v).at ((addSmall c k v).I j) = ⟨k, v, c.turns + 1⟩ := by
    show (addSmall c k v).L ((addSmall c k v).I j - 1).toNat = _
    rw [hI, show ((c.n : Int) + 1 - 1).toNat = c.n by omega]
    exact addL_new
   rw [hat, hI]
   refine ⟨by omega, by show _ ≤ ((c.n + 1 : Nat) : Int); omega, ?_, k1, by show k.num = _; omega⟩
   show c.turns + 1 ≠ 0
   have := h.turns.1
   omega
  ·exact okInt_add (h.ints j hj) rfl (fun i hi => addL_old hi) (upd_other _ _ e)
 ·rcases h.last with e | e
  ·exact .inl e
  ·right
   show 0 < upd c.I (k.num - 1).toNat ((c.n : Int) + 1) (c.m - 1)
   by_cases e' : c.m - 1 = (k.num - 1).toNat
   ·rw [e', upd_same]; omega
   ·rw [upd_other _ _ e']; exact e
 ·have hi : i < c.n + 1 := hi
  show upd c.I (k.num - 1).toNat ((c.n : Int) + 1) _ = _
  by_cases e : i = c.n
  ·subst e
   have : (addSmall c k v).L c.n = ⟨k, v, c.turns + 1⟩ := addL_new
   rw [this, upd_same]
  ·have hLi : (addSmall c k v).L i = c.L i := addL_old (by omega)
   rw [hLi] at hti hsm ⊢
   have hsm : smallK c.m (c.L i).key := hsm
   have h1 := h.small i (by omega) hti hsm
   rw [upd_other _ _ (fun e' => ?_)]
   ·exact h1
   ·have h2 : (c.L i).key.num = k.num := by have := hsm.2.1; omega
    have := KL.int _ _ (h.keys i (by omega) hti) hk hsm.1 k1 h2
    rw [hno i (by omega) hti] at this
    cases this
 ·refine h.idx.congr (fun i => ?_) (fun i hi => by rw [show (addSmall c k v).L i = c.L i from addL_old hi.1])
  unfold inX
  show (i < c.n + 1 ∧ ((addL c k v).L i).turn ≠ 0 ∧ ¬ smallK c.m ((addL c k v).L i).key) ↔ _
  by_cases e : i = c.n
  ·subst e
   rw [addL_new]
   constructor
   ·rintro ⟨_, _, h3⟩; exact absurd ⟨k1, k2, k3⟩ h3
   ·rintro ⟨h3, _⟩; omega
  ·constructor
   ·rintro ⟨h1, h2⟩
    rw [addL_old (by omega)] at h2
    exact ⟨by omega, h2⟩
   ·rintro ⟨h1, h2⟩
    rw [addL_old h1]
    exact ⟨by omega, h2⟩
def addNext (c : Dc) (k v : Vl) : Dc := { addL c k v with m := c.m + 1, I := upd c.I c.m ((c.n : Int) + 1) }
theorem small_succ {m : Nat} {k : Vl} : smallK (m + 1) k ↔ smallK m k ∨ (k.kind = 2 ∧ k.num = (m : Int) + 1) := by
 unfold smallK
 constructor
 ·rintro ⟨h1, h2, h3⟩
  by_cases e : k.num = (m : Int) + 1
  ·exact .inr ⟨h1, e⟩
  ·exact .inl ⟨h1, h2, by omega⟩
 ·rintro (⟨h1, h2, h3⟩ | ⟨h1, h2⟩)
  ·exact ⟨h1, h2, by omega⟩
  ·exact ⟨h1, by omega, by omega⟩
theorem addNext_inv (KL : KeyLaw K hf) (h : Inv0 K hf c) (hk : K k) (hkb : keyB k = true) (hv : v.ok = true) (hv0 : v.kind ≠ 0) (hno : ∀ i, i < c.n → (c.L i).turn ≠ 0 → likeB (c.L i).key k = false) (k1 : k.kind = 2) (k2 : k.num = (c.m : Int) + 1) (hl : c.live < 500) (ht : c.turns < 1000000000000) : Inv0 K hf (addNext c k v) := by
 have hlog := addL_log h.log h.turns.1 hkb hv hv0
 have hnx : ∀ i, i < c.n → (c.L i).turn ≠ 0 → ¬ ((c.L i).key.kind = 2 ∧ (c.L i).key.num = (c.m : Int) + 1) := by
  intro i hi hti hc
  have := KL.int _ _ (h.keys i hi hti) hk hc.1 k1 (by omega)
  rw [hno i hi hti] at this
  cases this
 refine (Core.inv0 ⟨⟨hlog.ent, hlog.ord, hlog.cnt⟩, addL_keys h.core hk, addL_dist KL h.core hk hno, fun j hj => ?_, ?_, fun i hi hti hsm => ?_, ⟨by show 0 ≤ c.turns + 1; have := h.turns.1; omega, by show c.turns + 1 ≤ _; omega⟩, by show c.live + 1 ≤ 500; omega⟩ ⟨h.sz, ?_, h.used, h.half⟩)
 ·have hj : j < c.m + 1 := hj
  by_cases e : j = c.m
  ·right
   have hI : (addNext c k v).I j = (c.n : Int) + 1 := by subst e; exact upd_same _ _ _
   have hat : (addNext c k v).at ((addNext c k v).I j) = ⟨k, v, c.turns + 1⟩ := by
    show (addNext c k v).L ((addNext c k v).I j - 1).toNat = _
    rw [hI, show ((c.n : Int) + 1 - 1).toNat = c.n by omega]
    exact addL_new
   rw [hat, hI]
   refine ⟨by omega, by show _ ≤ ((c.n + 1 : Nat) : Int); omega, ?_, k1, by show k.num = _; omega⟩
   show c.turns + 1 ≠ 0
   have := h.turns.1
   omega
  ·exact okInt_add (h.ints j (by omega)) rfl (fun i hi => addL_old hi) (upd_other _ _ e)
 ·right
  show 0 < upd c.I c.m ((c.n : Int) + 1) (c.m + 1 - 1)
  rw [show c.m + 1 - 1 = c.m by omega, upd_same]
  omega
 ·have hi : i < c.n + 1 := hi
  show upd c.I c.m ((c.n : Int) + 1) _ = _
  by_cases e : i = c.n
  ·subst e
   have : (addNext c k v).L c.n = ⟨k, v, c.turns + 1⟩ := addL_new
   rw [this, show ((Pr.mk k v (c.turns + 1)).key.num - 1).toNat = c.m by show (k.num - 1).toNat = _; omega, upd_same]
  ·have hLi : (addNext c k v).L i = c.L i := addL_old (by omega)
   rw [hLi] at hti hsm ⊢
   have hsm : smallK (c.m + 1) (c.L i).key := hsm
   rcases small_succ.1 hsm with hsm | hsm
   ·rw [upd_other _ _ (fun e' => by have := hsm.2.1; have := hsm.2.2; omega)]
    exact h.small i (by omega) hti hsm
   ·exact absurd hsm (hnx i (by omega) hti)
 ·refine h.idx.congr (fun i => ?_) (fun i hi => by rw [show (addNext c k v).L i = c.L i from addL_old hi.1])
  unfold inX
  show (i < c.n + 1 ∧ ((addL c k v).L i).turn ≠ 0 ∧ ¬ smallK (c.m + 1) ((addL c k v).L i).key) ↔ _
  rw [small_succ]
  by_cases e : i = c.n
  ·subst e
   rw [addL_new]
   constructor
   ·rintro ⟨_, _, h3⟩; exact absurd (.inr ⟨k1, k2⟩) h3
   ·rintro ⟨h3, _⟩; omega
  ·constructor
   ·rintro ⟨h1, h2, h3⟩
    rw [addL_old (by omega)] at h2 h3
    exact ⟨by omega, h2, fun g => h3 (.inl g)⟩
   ·rintro ⟨h1, h2, h3⟩
    rw [addL_old h1]
    refine ⟨by omega, h2, fun g => ?_⟩
    rcases g with g | g
    ·exact h3 g
    ·exact hnx i h1 h2 g
end
def moveS (d : Dc) (s : Nat) : Dc := { d with m := d.m + 1, I := upd d.I d.m (d.X s), X := upd d.X s (-1) }
def moveD (hf : Vl → Nat) : Nat → Dc → Dc
 | 0, d => d
 | f + 1, d => match slotOf d (intV ((d.m : Int) + 1)) (hf (intV ((d.m : Int) + 1))) with
  | none => d
  | some s => moveD hf f (moveS d s)
theorem moveD_none {hf : Vl → Nat} {d : Dc} {f : Nat} (h : slotOf d (intV ((d.m : Int) + 1)) (hf (intV ((d.m : Int) + 1))) = none) : moveD hf f d = d := by
 cases f with
 | zero => rfl
 | succ f => show (match slotOf d (intV ((d.m : Int) + 1)) (hf (intV ((d.m : Int) + 1))) with | none => d | some s => moveD hf f (moveS d s)) = d; rw [h]
theorem moveD_some {hf : Vl → Nat} {d : Dc} {f s : Nat} (h : slotOf d (intV ((d.m : Int) + 1)) (hf (intV ((d.m : Int) + 1))) = some s) : moveD hf (f + 1) d = moveD hf f (moveS d s) := by
 show (match slotOf d (intV ((d.m : Int) + 1)) (hf (intV ((d.m : Int) + 1))) with | none => d | some s => moveD hf f (moveS d s)) = _; rw [h]
def posN (X : Nat → Int) : Nat → Nat
 | 0 => 0
 | k + 1 => if 0 < X k then posN X k + 1 else posN X k
theorem posN_le (X : Nat → Int) (k : Nat) : posN X k ≤ k := by
 induction k with
 | zero => exact Nat.le_refl _
 | succ k ih =>
  show (if 0 < X k then posN X k + 1 else posN X k) ≤ k + 1
  by_cases e : 0 < X k
  ·rw [if_pos e]; omega
  ·rw [if_neg e]; omega
theorem posN_leave {X : Nat → Int} {s : Nat} (h0 : 0 < X s) : ∀ k, posN (upd X s (-1)) k + (if s < k then 1 else 0) = posN X k := by
 intro k
 induction k with
 | zero => rfl
 | succ k ih =>
  show (if 0 < upd X s (-1) k then posN (upd X s (-1)) k + 1 else posN (upd X s (-1)) k) + _ = (if 0 < X k then posN X k + 1 else posN X k)
  by_cases e : k = s
  ·subst e
   rw [upd_same, if_neg (by omega), if_pos h0, if_pos (by omega)]
   rw [if_neg (by omega)] at ih
   omega
  ·rw [upd_other _ _ e]
   by_cases e2 : s < k
   ·rw [if_pos (show s < k + 1 by omega)]
    rw [if_pos e2] at ih
    by_cases e1 : 0 < X k
    ·rw [if_pos e1, if_pos e1]; omega
    ·rw [if_neg e1, if_neg e1]; omega
   ·rw [if_neg (show ¬ s < k + 1 by omega)]
    rw [if_neg e2] at ih
    by_cases e1 : 0 < X k
    ·rw [if_pos e1, if_pos e1]; omega
    ·rw [if_neg e1, if_neg e1]; omega
section
variable {K : Vl → Prop} {hf : Vl → Nat} {d : Dc}
theorem Inv0.slot (h : Inv0 K hf d) {v : Vl} {a s : Nat} (e : slotOf d v a = some s) : s < d.x ∧ 0 < d.X s ∧ inX d (d.X s - 1).toNat ∧ likeB (d.L (d.X s - 1).toNat).key v = true := by
 obtain ⟨h1, h2, h3, h4⟩ := slotOf_says e
 rcases h.idx.range s h1 with g | g | g
 ·omega
 ·omega
 ·exact ⟨h1, h2, g.2, h3⟩
theorem moveS_inv (KL : KeyLaw K hf) (h : Inv0 K hf d) {s : Nat} (e : slotOf d (intV ((d.m : Int) + 1)) (hf (intV ((d.m : Int) + 1))) = some s) : Inv0 K hf (moveS d s) := by
 obtain ⟨h1, h2, h3, h4⟩ := h.slot e
 have hkd : (d.L (d.X s - 1).toNat).key.kind = 2 := like_kind h4
 have hnm : (d.L (d.X s - 1).toNat).key.num = (d.m : Int) + 1 := like_num h4
 have huniq : ∀ i, i < d.n → (d.L i).turn ≠ 0 → (d.L i).key.kind = 2 → (d.L i).key.num = (d.m : Int) + 1 → i = (d.X s - 1).toNat := fun i hi ht g1 g2 =>
  h.dist _ _ hi h3.1 ht h3.2.1 (KL.int _ _ (h.keys i hi ht) (h.keys _ h3.1 h3.2.1) g1 hkd (by omega))
 refine Core.inv0 ⟨⟨h.log.ent, h.log.ord, h.log.cnt⟩, h.keys, h.dist, fun j hj => ?_, ?_, fun i hi ht hsm => ?_, h.turns, h.le⟩ ⟨h.sz, ?_, ?_, ?_⟩
 ·have hj : j < d.m + 1 := hj
  unfold okInt
  by_cases e : j = d.m
  ·right
   have hI : (moveS d s).I j = d.X s := by subst e; exact upd_same _ _ _
   rw [hI]
   have hat : (moveS d s).at (d.X s) = d.L (d.X s - 1).toNat := rfl
   rw [hat]
   exact ⟨h2, by show _ ≤ (d.n : Int); have := h3.1; omega, h3.2.1, hkd, by omega⟩
  ·have hI : (moveS d s).I j = d.I j := upd_other _ _ e
   rw [hI]
   exact h.ints j (by omega)
 ·right
  show 0 < upd d.I d.m (d.X s) (d.m + 1 - 1)
  rw [show d.m + 1 - 1 = d.m by omega, upd_same]
  exact h2
 ·have hsm : smallK (d.m + 1) (d.L i).key := hsm
  show upd d.I d.m (d.X s) ((d.L i).key.num - 1).toNat = _
  rcases small_succ.1 hsm with g | ⟨g1, g2⟩
  ·have := g.2.1
   have := g.2.2
   rw [upd_other _ _ (by omega)]
   exact h.small i hi ht g
  ·have := huniq i hi ht g1 g2
   rw [g2, show ((d.m : Int) + 1 - 1).toNat = d.m by omega, upd_same]
   omega
 ·refine (h.idx.leave h1 h2).congr (fun i => ?_) (fun _ _ => rfl)
  unfold inX
  show (i < d.n ∧ (d.L i).turn ≠ 0 ∧ ¬ smallK (d.m + 1) (d.L i).key) ↔ _
  rw [small_succ]
  constructor
  ·rintro ⟨g1, g2, g3⟩
   refine ⟨⟨g1, g2, fun g => g3 (.inl g)⟩, fun e => g3 (.inr ?_)⟩
   have : i = (d.X s - 1).toNat := by omega
   rw [this]
   exact ⟨hkd, hnm⟩
  ·rintro ⟨⟨g1, g2, g3⟩, g4⟩
   refine ⟨g1, g2, fun g => ?_⟩
   rcases g with g | ⟨g5, g6⟩
   ·exact g3 g
   ·have := huniq i g1 g2 g5 g6
    omega
 ·show (useN (upd d.X s (-1)) d.x : Int) = d.used
  rw [← h.used, useN_congr (X := upd d.X s (-1)) (Y := d.X) (fun j hj => ?_)]
  by_cases e : j = s
  ·subst e; rw [upd_same]; constructor <;> intro g <;> omega
  ·rw [upd_other _ _ e]
 ·show 2 * useN (upd d.X s (-1)) d.x ≤ d.x
  rw [useN_congr (X := upd d.X s (-1)) (Y := d.X) (fun j hj => ?_)]
  ·exact h.half
  ·by_cases e : j = s
   ·subst e; rw [upd_same]; constructor <;> intro g <;> omega
   ·rw [upd_other _ _ e]
theorem Inv0.next_of (KL : KeyLaw K hf) (h : Inv0 K hf d) (e : slotOf d (intV ((d.m : Int) + 1)) (hf (intV ((d.m : Int) + 1))) = none) : Next d := by
 intro i hi ht ⟨h1, h2⟩
 obtain ⟨s, _, _, g⟩ := h.found KL (KL.own ((d.m : Int) + 1)) ⟨hi, ht, fun g => by have := g.2.2; omega⟩ (KL.int _ _ (h.keys i hi ht) (KL.own _) h1 rfl h2)
 rw [e] at g
 cases g
theorem moveD_inv (KL : KeyLaw K hf) : ∀ (f : Nat) (d : Dc), Inv0 K hf d → posN d.X d.x < f → Inv0 K hf (moveD hf f d) ∧ Next (moveD hf f d) ∧ (moveD hf f d).n = d.n ∧ (moveD hf f d).L = d.L ∧ (moveD hf f d).live = d.live ∧ (moveD hf f d).turns = d.turns := by
 intro f
 induction f with
 | zero => intro d _ h; omega
 | succ f ih =>
  intro d h hp
  cases e : slotOf d (intV ((d.m : Int) + 1)) (hf (intV ((d.m : Int) + 1))) with
  | none => rw [moveD_none e]; exact ⟨h, h.next_of KL e, rfl, rfl, rfl, rfl⟩
  | some s =>
   rw [moveD_some e]
   obtain ⟨h1, h2, h3, h4⟩ := h.slot e
   have := posN_leave (X := d.X) h2 d.x
   rw [if_pos h1] at this
   exact ih _ (moveS_inv KL h e) (by show posN (upd d.X s (-1)) d.x < f; omega)
end
noncomputable def roomD (hf : Vl → Nat) (c : Dc) : Dc := if (c.x : Int) < 2 * (c.used + 1) then reindexD hf c 1 else c
open Classical in
noncomputable def comeC (hf : Vl → Nat) (c : Dc) (k v : Vl) : Dc :=
 if smallK c.m k then addSmall c k v
 else if k.kind = 2 ∧ k.num = (c.m : Int) + 1 then moveD hf (c.x + 1) (addNext c k v)
 else enterD hf (addL (roomD hf c) k v) k c.n
noncomputable def comeD (hf : Vl → Nat) (d : Dc) (k v : Vl) : Dc := comeC hf (compactD hf d) k v
section
variable {K : Vl → Prop} {hf : Vl → Nat} {c d : Dc} {k v : Vl}
theorem Core.idx_le (h : Core K c) : (idxN c c.n : Int) ≤ c.live := by
 have h1 := idxN_le c c.n
 have h2 : (lvN c : Int) = c.live := h.live_n
 unfold lvN at h2
 omega
theorem roomD_inv (h : Inv0 K hf c) (hl : c.live < 500) : Inv0 K hf (roomD hf c) ∧ 2 * (useN (roomD hf c).X (roomD hf c).x + 1) ≤ (roomD hf c).x ∧ SameLog (roomD hf c) c := by
 unfold roomD
 split
 ·have h1 := h.core.idx_le
  have hm : idxN c c.n + 1 ≤ 500 := by omega
  exact ⟨reindexD_inv h.core hm, (reindexD_ix h.core hm).2 (by omega), reindexD_same h.core hm⟩
 ·next e =>
  have := h.used
  exact ⟨h, by omega, rfl, rfl, rfl, rfl, rfl, rfl⟩
theorem comeC_inv (KL : KeyLaw K hf) (h : Inv0 K hf c) (hn : Next c) (hk : K k) (hkb : keyB k = true) (hv : v.ok = true) (hv0 : v.kind ≠ 0) (hno : ∀ i, i < c.n → (c.L i).turn ≠ 0 → likeB (c.L i).key k = false) (hl : c.live < 500) (ht : c.turns < 1000000000000) :
  Inv0 K hf (comeC hf c k v) ∧ Next (comeC hf c k v) ∧ (comeC hf c k v).n = c.n + 1 ∧ (comeC hf c k v).L = upd c.L c.n ⟨k, v, c.turns + 1⟩ ∧ (comeC hf c k v).live = c.live + 1 ∧ (comeC hf c k v).turns = c.turns + 1 := by
 unfold comeC
 by_cases hs : smallK c.m k
 ·rw [if_pos hs]
  refine ⟨addSmall_inv KL h hk hkb hv hv0 hno hs hl ht, fun i hi hti => ?_, rfl, rfl, rfl, rfl⟩
  have hi : i < c.n + 1 := hi
  by_cases e : i = c.n
  ·subst e
   rw [show (addSmall c k v).L c.n = ⟨k, v, c.turns + 1⟩ from addL_new]
   rintro ⟨_, g⟩
   have := hs.2.2
   have g : k.num = (c.m : Int) + 1 := g
   omega
  ·rw [show (addSmall c k v).L i = c.L i from addL_old (by omega)] at hti ⊢
   exact hn i (by omega) hti
 ·rw [if_neg hs]
  by_cases hx : k.kind = 2 ∧ k.num = (c.m : Int) + 1
  ·rw [if_pos hx]
   have h1 := addNext_inv KL h hk hkb hv hv0 hno hx.1 hx.2 hl ht
   obtain ⟨g1, g2, g3, g4, g5, g6⟩ := moveD_inv KL (c.x + 1) (addNext c k v) h1 (by have := posN_le c.X c.x; show posN c.X c.x < _; omega)
   exact ⟨g1, g2, g3, g4, g5, g6⟩
  ·rw [if_neg hx]
   obtain ⟨r1, r2, r3⟩ := roomD_inv (hf := hf) h hl
   generalize hc' : roomD hf c = c' at r1 r2 r3
   have hno' : ∀ i, i < c'.n → (c'.L i).turn ≠ 0 → likeB (c'.L i).key k = false := by rw [r3.n, r3.L]; exact hno
   have hlog := addL_log r1.log r1.turns.1 hkb hv hv0
   have hP : ¬ inX c' c.n := by rintro ⟨g, _⟩; have := r3.n; omega
   have hcn : (addL c' k v).L c.n = ⟨k, v, c'.turns + 1⟩ := by rw [← r3.n]; exact addL_new
   have hidx : Idx hf (addL c' k v).L c'.x c'.X (inX c') := r1.idx.congr (fun _ => Iff.rfl) (fun i hi => by rw [addL_old hi.1])
   obtain ⟨g1, g2, g3, g4, g5, g6, g7, g8, g9, g10⟩ := enterD_idx (hf := hf) (d := addL c' k v) (L := (addL c' k v).L) (k := k) (p := c.n) (P := inX c') hidx hP (by rw [hcn]) (by show useN c'.X c'.x < c'.x; omega) r1.used
   have hgx : (addL c' k v).x = c'.x := rfl
   have hgX : (addL c' k v).X = c'.X := rfl
   rw [hgx] at g3 g10
   rw [hgX] at g10
   have core' : Core K (enterD hf (addL c' k v) k c.n) := Core.of_same (c := addL c' k v) ⟨⟨hlog.ent, hlog.ord, hlog.cnt⟩, addL_keys r1.core hk, addL_dist KL r1.core hk hno', fun j hj => okInt_add (r1.ints j hj) rfl (fun i hi => addL_old hi) rfl, r1.last, fun i hi hti hsm => by
     have hi : i < c'.n + 1 := hi
     by_cases e : i = c'.n
     ·subst e
      rw [addL_new] at hsm
      have hsm : smallK c'.m k := hsm
      rw [r3.m] at hsm
      exact absurd hsm hs
     ·rw [addL_old (by omega)] at hti hsm ⊢
      exact r1.small i (by omega) hti hsm, ⟨by show 0 ≤ c'.turns + 1; have := r1.turns.1; omega, by show c'.turns + 1 ≤ _; rw [r3.turns]; omega⟩, by show c'.live + 1 ≤ 500; rw [r3.live]; omega⟩ ⟨g4, g5, g6, g7, g8, g9⟩
   refine ⟨core'.inv0 ⟨by rw [g3]; exact r1.sz, ?_, g2, by rw [g3]; omega⟩, fun i hi hti => ?_, ?_, ?_, ?_, ?_⟩
   ·rw [g5]
    refine g1.congr (fun i => ?_) (fun _ _ => rfl)
    unfold inX
    rw [g4, g5, g6]
    show (i < c'.n + 1 ∧ ((addL c' k v).L i).turn ≠ 0 ∧ ¬ smallK c'.m ((addL c' k v).L i).key) ↔ _
    by_cases e : i = c'.n
    ·subst e
     rw [addL_new]
     constructor
     ·rintro _; exact .inr r3.n
     ·rintro _
      refine ⟨by omega, ?_, ?_⟩
      ·show c'.turns + 1 ≠ 0
       have := r1.turns.1
       omega
      ·show ¬ smallK c'.m k
       rw [r3.m]; exact hs
    ·constructor
     ·rintro ⟨e1, e2⟩
      rw [addL_old (by omega)] at e2
      exact .inl ⟨by omega, e2⟩
     ·rintro (⟨e1, e2⟩ | e1)
      ·rw [addL_old e1]; exact ⟨by omega, e2⟩
      ·rw [← r3.n] at e1; exact absurd e1 e
   ·rw [g4] at hi
    rw [g5] at hti ⊢
    rw [g6]
    have hi : i < c'.n + 1 := hi
    show ¬ (_ ∧ _ = (c'.m : Int) + 1)
    rw [r3.m]
    by_cases e : i = c'.n
    ·subst e
     rw [addL_new]
     exact hx
    ·rw [addL_old (by omega)] at hti ⊢
     rw [r3.L] at hti ⊢
     exact hn i (by rw [← r3.n]; omega) hti
   ·rw [g4]; show c'.n + 1 = _; rw [r3.n]
   ·rw [g5]; show upd c'.L c'.n ⟨k, v, c'.turns + 1⟩ = _; rw [r3.L, r3.n, r3.turns]
   ·rw [g8]; show c'.live + 1 = _; rw [r3.live]
   ·rw [g9]; show c'.turns + 1 = _; rw [r3.turns]
theorem comeD_inv (KL : KeyLaw K hf) (h : Inv K hf d) (hk : K k) (hkb : keyB k = true) (hv : v.ok = true) (hv0 : v.kind ≠ 0) (hno : ∀ i, i < d.n → (d.L i).turn ≠ 0 → likeB (d.L i).key k = false) (hl : d.live < 500) (ht : d.turns < 1000000000000) : Inv K hf (comeD hf d k v) := by
 obtain ⟨c1, c2, c3, c4⟩ := compactD_live (hf := hf) h.i0.core
 have hno' : ∀ i, i < (compactD hf d).n → ((compactD hf d).L i).turn ≠ 0 → likeB ((compactD hf d).L i).key k = false := by
  intro i hi hti
  cases e : likeB ((compactD hf d).L i).key k
  ·rfl
  ·obtain ⟨j, g1, g2, g3⟩ := (compactD_pairs (hf := hf) h.i0.core (fun p => likeB p.key k = true)).1 ⟨i, hi, hti, e⟩
   rw [hno j g1 g2] at g3
   cases g3
 obtain ⟨g1, g2, g3, g4, g5, g6⟩ := comeC_inv KL (compactD_inv h.i0) (compactD_next h.i0.core h.next) hk hkb hv hv0 hno' (by omega) (by omega)
 refine ⟨g1, g2, ?_⟩
 unfold Tight
 show ((comeC hf (compactD hf d) k v).n : Int) ≤ 8 ∨ ((comeC hf (compactD hf d) k v).n : Int) ≤ 2 * (comeC hf (compactD hf d) k v).live
 rw [g3, g5]
 omega
end
def shrink (I : Nat → Int) : Nat → Nat
 | 0 => 0
 | m + 1 => if I m = 0 then shrink I m else m + 1
theorem shrink_zero {I : Nat → Int} {m : Nat} (h : I m = 0) : shrink I (m + 1) = shrink I m := if_pos h
theorem shrink_stop {I : Nat → Int} {m : Nat} (h : I m ≠ 0) : shrink I (m + 1) = m + 1 := if_neg h
theorem shrink_says (I : Nat → Int) (m : Nat) : shrink I m ≤ m ∧ (shrink I m = 0 ∨ I (shrink I m - 1) ≠ 0) ∧ ∀ j, shrink I m ≤ j → j < m → I j = 0 := by
 induction m with
 | zero => exact ⟨Nat.le_refl _, .inl rfl, fun j _ h => by omega⟩
 | succ m ih =>
  by_cases e : I m = 0
  ·rw [shrink_zero e]
   refine ⟨by omega, ih.2.1, fun j h1 h2 => ?_⟩
   by_cases e' : j = m
   ·subst e'; exact e
   ·exact ih.2.2 j h1 (by omega)
  ·rw [shrink_stop e]
   exact ⟨Nat.le_refl _, .inr (by rw [show m + 1 - 1 = m by omega]; exact e), fun j h1 h2 => by omega⟩
def deadL (d : Dc) (p : Nat) : Dc := { d with L := upd d.L p default, live := d.live - 1 }
section
variable {K : Vl → Prop} {hf : Vl → Nat} {d : Dc} {p : Nat}
theorem deadL_other {i : Nat} (h : i ≠ p) : (deadL d p).L i = d.L i := upd_other _ _ h
theorem deadL_same : (deadL d p).L p = default := upd_same _ _ _
theorem dead_turn : (default : Pr).turn = 0 := rfl
theorem deadL_live {i : Nat} (h : ((deadL d p).L i).turn ≠ 0) : i ≠ p ∧ (deadL d p).L i = d.L i := by
 by_cases e : i = p
 ·subst e; rw [deadL_same] at h; exact absurd dead_turn h
 ·exact ⟨e, deadL_other e⟩
theorem deadL_count (ht : (d.L p).turn ≠ 0) : ∀ k, (livL (deadL d p) k).length + (if p < k then 1 else 0) = (livL d k).length := by
 intro k
 induction k with
 | zero => rfl
 | succ k ih =>
  by_cases e : k = p
  ·subst e
   rw [livL_dead (by rw [deadL_same]; rfl), livL_live ht, List.length_append, List.length_singleton, if_pos (by omega)]
   rw [if_neg (by omega)] at ih
   omega
  ·have hL : (deadL d p).L k = d.L k := deadL_other e
   by_cases e0 : (d.L k).turn = 0
   ·rw [livL_dead (by rw [hL]; exact e0), livL_dead e0, ← ih]
    congr 1
    by_cases e2 : p < k
    ·rw [if_pos e2, if_pos (show p < k + 1 by omega)]
    ·rw [if_neg e2, if_neg (show ¬ p < k + 1 by omega)]
   ·rw [livL_live (by rw [hL]; exact e0), livL_live e0, List.length_append, List.length_append, List.length_singleton, ← ih]
    by_cases e2 : p < k
    ·rw [if_pos e2, if_pos (show p < k + 1 by omega)]
    ·rw [if_neg e2, if_neg (show ¬ p < k + 1 by omega)]
theorem deadL_log (KL : KeyLaw K hf) (h : LogOk d) (hp : p < d.n) (ht : (d.L p).turn ≠ 0) : LogOk (deadL d p) := by
 refine ⟨fun i hi => ?_, fun i j hij hj ti tj => ?_, ?_⟩
 ·by_cases e : i = p
  ·subst e
   left
   rw [deadL_same]
   exact ⟨rfl, KL.none, KL.none⟩
  ·have := h.ent i hi
   unfold Entry at this ⊢
   rw [deadL_other e]
   exact this
 ·obtain ⟨_, e1⟩ := deadL_live ti
  obtain ⟨_, e2⟩ := deadL_live tj
  rw [e1] at ti ⊢
  rw [e2] at tj ⊢
  exact h.ord i j hij hj ti tj
 ·have h1 := deadL_count (d := d) ht d.n
  rw [if_pos hp] at h1
  have h2 : ((livL d d.n).length : Int) = d.live := h.cnt
  show ((livL (deadL d p) d.n).length : Int) = d.live - 1
  omega
def goSmall (d : Dc) (p : Nat) : Dc := { deadL d p with m := shrink (upd d.I ((d.L p).key.num - 1).toNat 0) d.m, I := upd d.I ((d.L p).key.num - 1).toNat 0 }
theorem goSmall_inv (KL : KeyLaw K hf) (h : Inv0 K hf d) (hn : Next d) (hp : p < d.n) (ht : (d.L p).turn ≠ 0) (hs : smallK d.m (d.L p).key) : Inv0 K hf (goSmall d p) ∧ Next (goSmall d p) := by
 have hlog := deadL_log KL h.log hp ht
 have hI := h.small p hp ht hs
 obtain ⟨k1, k2, k3⟩ := hs
 obtain ⟨q, hq⟩ : ∃ q, q = ((d.L p).key.num - 1).toNat := ⟨_, rfl⟩
 have hqm : q < d.m := by omega
 obtain ⟨s1, s2, s3⟩ := shrink_says (upd d.I q 0) d.m
 have hm : (goSmall d p).m = shrink (upd d.I q 0) d.m := by rw [hq]; rfl
 have hII : (goSmall d p).I = upd d.I q 0 := by rw [hq]; rfl
 rw [← hq] at hI
 -- a pair that lives still and was small is small
 have still : ∀ i, i < d.n → (d.L i).turn ≠ 0 → i ≠ p → smallK d.m (d.L i).key → ((d.L i).key.num - 1).toNat ≠ q ∧ smallK (goSmall d p).m (d.L i).key := by
  intro i hi hti hip hsm
  have h1 := h.small i hi hti hsm
  have hne : ((d.L i).key.num - 1).toNat ≠ q := fun e => by rw [e] at h1; omega
  refine ⟨hne, hsm.1, hsm.2.1, ?_⟩
  have a1 := hsm.2.1
  have a2 := hsm.2.2
  rw [hm]
  by_cases e : (d.L i).key.num ≤ ((shrink (upd d.I q 0) d.m : Nat) : Int)
  ·exact e
  ·have := s3 ((d.L i).key.num - 1).toNat (by omega) (by omega)
   rw [upd_other _ _ hne] at this
   omega
 have smaller : ∀ k : Vl, smallK (goSmall d p).m k → smallK d.m k := fun k g => ⟨g.1, g.2.1, by have := g.2.2; rw [hm] at this; omega⟩
 refine ⟨Core.inv0 ⟨⟨hlog.ent, hlog.ord, hlog.cnt⟩, fun i hi hti => ?_, fun i j hi hj ti tj hl => ?_, fun j hj => ?_, ?_, fun i hi hti hsm => ?_, h.turns, by show d.live - 1 ≤ 500; have := h.le; omega⟩ ⟨h.sz, ?_, h.used, h.half⟩, fun i hi hti hc => ?_⟩
 ·obtain ⟨_, e1⟩ := deadL_live hti
  have e1 : (goSmall d p).L i = d.L i := e1
  rw [e1] at hti ⊢
  exact h.keys i hi hti
 ·obtain ⟨_, e1⟩ := deadL_live ti
  obtain ⟨_, e2⟩ := deadL_live tj
  have e1 : (goSmall d p).L i = d.L i := e1
  have e2 : (goSmall d p).L j = d.L j := e2
  rw [e1] at ti hl
  rw [e2] at tj hl
  exact h.dist i j hi hj ti tj hl
 ·unfold okInt
  rw [hII]
  rw [hm] at hj
  by_cases e : j = q
  ·left; subst e; exact upd_same _ _ _
  ·rw [upd_other _ _ e]
   rcases h.ints j (by omega) with g | ⟨g1, g2, g3, g4, g5⟩
   ·exact .inl g
   ·right
    have hne : (d.I j - 1).toNat ≠ p := fun e' => by
     have g5 : (d.L (d.I j - 1).toNat).key.num = j + 1 := g5
     rw [e'] at g5
     omega
    have hat : (goSmall d p).at (d.I j) = d.at (d.I j) := deadL_other hne
    rw [hat]
    exact ⟨g1, g2, g3, g4, g5⟩
 ·rw [hm, hII]
  rcases s2 with e | e
  ·exact .inl e
  ·right
   by_cases e0 : shrink (upd d.I q 0) d.m = 0
   ·have hj : shrink (upd d.I q 0) d.m - 1 < d.m := by omega
    by_cases e1 : shrink (upd d.I q 0) d.m - 1 = q
    ·rw [e1, upd_same] at e; exact absurd rfl e
    ·rw [upd_other _ _ e1] at e ⊢
     rcases h.ints _ hj with g | g
     ·exact absurd g e
     ·exact g.1
   ·have hj : shrink (upd d.I q 0) d.m - 1 < d.m := by omega
    by_cases e1 : shrink (upd d.I q 0) d.m - 1 = q
    ·rw [e1, upd_same] at e; exact absurd rfl e
    ·rw [upd_other _ _ e1] at e ⊢
     rcases h.ints _ hj with g | g
     ·exact absurd g e
     ·exact g.1
 ·obtain ⟨e0, e1⟩ := deadL_live hti
  have e1 : (goSmall d p).L i = d.L i := e1
  rw [e1] at hti hsm ⊢
  have hsm' := smaller _ hsm
  rw [hII, upd_other _ _ (still i hi hti e0 hsm').1]
  exact h.small i hi hti hsm'
 ·refine h.idx.congr (fun i => ?_) (fun i hi => ?_)
  ·unfold inX
   constructor
   ·rintro ⟨g1, g2, g3⟩
    obtain ⟨e0, e1⟩ := deadL_live g2
    have e1 : (goSmall d p).L i = d.L i := e1
    rw [e1] at g2 g3
    exact ⟨g1, g2, fun g => g3 (still i g1 g2 e0 g).2⟩
   ·rintro ⟨g1, g2, g3⟩
    have hne : i ≠ p := fun e => by subst e; exact g3 ⟨k1, k2, k3⟩
    have e1 : (goSmall d p).L i = d.L i := deadL_other hne
    rw [e1]
    exact ⟨g1, g2, fun g => g3 (smaller _ g)⟩
  ·have hne : i ≠ p := fun e => by subst e; exact hi.2.2 ⟨k1, k2, k3⟩
   rw [show (goSmall d p).L i = d.L i from deadL_other hne]
 ·obtain ⟨e0, e1⟩ := deadL_live hti
  have e1 : (goSmall d p).L i = d.L i := e1
  rw [e1] at hti hc
  rw [hm] at hc
  by_cases e : shrink (upd d.I q 0) d.m = d.m
  ·rw [e] at hc
   exact hn i hi hti hc
  ·have hsm : smallK d.m (d.L i).key := ⟨hc.1, by omega, by omega⟩
   have := (still i hi hti e0 hsm).2.2.2
   rw [hm] at this
   omega
def goSlot (d : Dc) (p s : Nat) : Dc := { deadL d p with X := upd d.X s (-1) }
theorem goSlot_inv (KL : KeyLaw K hf) (h : Inv0 K hf d) (hn : Next d) (hp : p < d.n) (ht : (d.L p).turn ≠ 0) (hs : ¬ smallK d.m (d.L p).key) {s : Nat} (hs1 : s < d.x) (hs2 : d.X s = p + 1) : Inv0 K hf (goSlot d p s) ∧ Next (goSlot d p s) := by
 have hlog := deadL_log KL h.log hp ht
 have huse : useN (upd d.X s (-1)) d.x = useN d.X d.x := useN_congr (fun j hj => by
  by_cases e : j = s
  ·subst e; rw [upd_same]; constructor <;> intro g <;> omega
  ·rw [upd_other _ _ e])
 refine ⟨Core.inv0 ⟨⟨hlog.ent, hlog.ord, hlog.cnt⟩, fun i hi hti => ?_, fun i j hi hj ti tj hl => ?_, fun j hj => ?_, h.last, fun i hi hti hsm => ?_, h.turns, by show d.live - 1 ≤ 500; have := h.le; omega⟩ ⟨h.sz, ?_, ?_, ?_⟩, fun i hi hti hc => ?_⟩
 ·obtain ⟨_, e1⟩ := deadL_live hti
  have e1 : (goSlot d p s).L i = d.L i := e1
  rw [e1] at hti ⊢
  exact h.keys i hi hti
 ·obtain ⟨_, e1⟩ := deadL_live ti
  obtain ⟨_, e2⟩ := deadL_live tj
  have e1 : (goSlot d p s).L i = d.L i := e1
  have e2 : (goSlot d p s).L j = d.L j := e2
  rw [e1] at ti hl
  rw [e2] at tj hl
  exact h.dist i j hi hj ti tj hl
 ·rcases h.ints j hj with g | ⟨g1, g2, g3, g4, g5⟩
  ·exact .inl g
  ·right
   have hj : j < d.m := hj
   have hne : (d.I j - 1).toNat ≠ p := fun e' => by
    have g4 : (d.L (d.I j - 1).toNat).key.kind = 2 := g4
    have g5 : (d.L (d.I j - 1).toNat).key.num = j + 1 := g5
    rw [e'] at g4 g5
    exact hs ⟨g4, by omega, by omega⟩
   have hat : (goSlot d p s).at (d.I j) = d.at (d.I j) := deadL_other hne
   show 0 < d.I j ∧ d.I j ≤ d.n ∧ ((goSlot d p s).at (d.I j)).turn ≠ 0 ∧ ((goSlot d p s).at (d.I j)).key.kind = 2 ∧ ((goSlot d p s).at (d.I j)).key.num = j + 1
   rw [hat]
   exact ⟨g1, g2, g3, g4, g5⟩
 ·obtain ⟨e0, e1⟩ := deadL_live hti
  have e1 : (goSlot d p s).L i = d.L i := e1
  rw [e1] at hti hsm ⊢
  exact h.small i hi hti hsm
 ·refine (h.idx.leave hs1 (by omega)).congr (fun i => ?_) (fun i hi => ?_)
  ·unfold inX
   constructor
   ·rintro ⟨g1, g2, g3⟩
    obtain ⟨e0, e1⟩ := deadL_live g2
    have e1 : (goSlot d p s).L i = d.L i := e1
    rw [e1] at g2 g3
    exact ⟨⟨g1, g2, g3⟩, by omega⟩
   ·rintro ⟨⟨g1, g2, g3⟩, g4⟩
    have e1 : (goSlot d p s).L i = d.L i := deadL_other (by omega)
    rw [e1]
    exact ⟨g1, g2, g3⟩
  ·rw [show (goSlot d p s).L i = d.L i from deadL_other (by have := hi.2; omega)]
 ·show (useN (upd d.X s (-1)) d.x : Int) = d.used
  rw [huse]; exact h.used
 ·show 2 * useN (upd d.X s (-1)) d.x ≤ d.x
  rw [huse]; exact h.half
 ·obtain ⟨e0, e1⟩ := deadL_live hti
  have e1 : (goSlot d p s).L i = d.L i := e1
  rw [e1] at hti hc
  exact hn i hi hti hc
end
open Classical in
noncomputable def goC (hf : Vl → Nat) (d : Dc) (p : Nat) : Dc :=
 if smallK d.m (d.L p).key then goSmall d p
 else match slotOf d (d.L p).key (hf (d.L p).key) with
  | none => d
  | some s => goSlot d p s
noncomputable def goD (hf : Vl → Nat) (d : Dc) (p : Nat) : Dc := compactD hf (goC hf d p)
theorem goC_small {hf : Vl → Nat} {d : Dc} {p : Nat} (h : smallK d.m (d.L p).key) : goC hf d p = goSmall d p := if_pos h
theorem goC_slot {hf : Vl → Nat} {d : Dc} {p s : Nat} (h : ¬ smallK d.m (d.L p).key) (e : slotOf d (d.L p).key (hf (d.L p).key) = some s) : goC hf d p = goSlot d p s := by
 unfold goC; rw [if_neg h, e]
section
variable {K : Vl → Prop} {hf : Vl → Nat} {d : Dc} {p : Nat}
theorem goC_inv (KL : KeyLaw K hf) (h : Inv0 K hf d) (hn : Next d) (hp : p < d.n) (ht : (d.L p).turn ≠ 0) : Inv0 K hf (goC hf d p) ∧ Next (goC hf d p) ∧ (goC hf d p).n = d.n ∧ (goC hf d p).L = upd d.L p default ∧ (goC hf d p).live = d.live - 1 ∧ (goC hf d p).turns = d.turns := by
 by_cases hs : smallK d.m (d.L p).key
 ·rw [goC_small hs]
  obtain ⟨g1, g2⟩ := goSmall_inv KL h hn hp ht hs
  exact ⟨g1, g2, rfl, rfl, rfl, rfl⟩
 ·obtain ⟨s, h1, h2, h3⟩ := h.found KL (h.keys p hp ht) ⟨hp, ht, hs⟩ (KL.refl _ (h.keys p hp ht))
  rw [goC_slot hs h3]
  obtain ⟨g1, g2⟩ := goSlot_inv KL h hn hp ht hs h1 h2
  exact ⟨g1, g2, rfl, rfl, rfl, rfl⟩
theorem goD_inv (KL : KeyLaw K hf) (h : Inv K hf d) (hp : p < d.n) (ht : (d.L p).turn ≠ 0) : Inv K hf (goD hf d p) := by
 obtain ⟨g1, g2, g3, g4, g5, g6⟩ := goC_inv KL h.i0 h.next hp ht
 obtain ⟨c1, c2, c3, c4⟩ := compactD_live (hf := hf) g1.core
 refine ⟨compactD_inv g1, compactD_next g1.core g2, ?_⟩
 unfold Tight goD
 rw [c1]
 omega
end
def setV (d : Dc) (p : Nat) (v : Vl) : Dc := { d with L := upd d.L p ⟨(d.L p).key, v, (d.L p).turn⟩ }
section
variable {K : Vl → Prop} {hf : Vl → Nat} {d : Dc} {p : Nat} {v : Vl}
theorem setV_key (i : Nat) : ((setV d p v).L i).key = (d.L i).key := by
 show (upd d.L p _ i).key = _
 by_cases e : i = p
 ·subst e; rw [upd_same]
 ·rw [upd_other _ _ e]
theorem setV_turn (i : Nat) : ((setV d p v).L i).turn = (d.L i).turn := by
 show (upd d.L p _ i).turn = _
 by_cases e : i = p
 ·subst e; rw [upd_same]
 ·rw [upd_other _ _ e]
theorem setV_inv (h : Inv K hf d) (hp : p < d.n) (ht : (d.L p).turn ≠ 0) (hv : v.ok = true) (hv0 : v.kind ≠ 0) : Inv K hf (setV d p v) := by
 have h0 := h.i0
 refine ⟨Core.inv0 ⟨⟨fun i hi => ?_, fun i j hij hj ti tj => ?_, ?_⟩, fun i hi hti => ?_, fun i j hi hj ti tj hl => ?_, fun j hj => ?_, h0.last, fun i hi hti hsm => ?_, h0.turns, h0.le⟩ ⟨h0.sz, ?_, h0.used, h0.half⟩, fun i hi hti hc => ?_, h.tight⟩
 ·by_cases e : i = p
  ·subst e
   rcases h0.log.ent i hi with g | g
   ·exact absurd g.1 ht
   ·right
    rw [show (setV d i v).L i = ⟨(d.L i).key, v, (d.L i).turn⟩ from upd_same _ _ _]
    exact ⟨g.1, g.2.1, g.2.2.1, hv, hv0⟩
  ·have := h0.log.ent i hi
   unfold Entry at this ⊢
   rw [show (setV d p v).L i = d.L i from upd_other _ _ e]
   exact this
 ·rw [setV_turn] at ti tj ⊢
  rw [setV_turn]
  exact h0.log.ord i j hij hj ti tj
 ·show ((livL (setV d p v) d.n).length : Int) = d.live
  rw [livL_congr (d := setV d p v) (c := d) d.n (fun i _ => by rw [setV_turn])]
  exact h0.log.cnt
 ·rw [setV_turn] at hti
  rw [setV_key]
  exact h0.keys i hi hti
 ·rw [setV_turn] at ti tj
  rw [setV_key, setV_key] at hl
  exact h0.dist i j hi hj ti tj hl
 ·have := h0.ints j hj
  unfold okInt Dc.at at this ⊢
  rw [setV_turn, setV_key]
  exact this
 ·rw [setV_turn] at hti
  rw [setV_key] at hsm ⊢
  exact h0.small i hi hti hsm
 ·refine h0.idx.congr (fun i => ?_) (fun i _ => setV_key i)
  unfold inX
  rw [setV_turn, setV_key]
  exact Iff.rfl
 ·rw [setV_turn] at hti
  rw [setV_key] at hc
  exact h.next i hi hti hc
end
open Classical in
noncomputable def putD (hf : Vl → Nat) (d : Dc) (k v : Vl) : Dc :=
 if 0 ≤ placeI d k (hf k) then (if v.kind = 0 then goD hf d (placeI d k (hf k)).toNat else setV d (placeI d k (hf k)).toNat v)
 else if v.kind ≠ 0 ∧ d.live < 500 ∧ d.turns < 1000000000000 then comeD hf d k v else d
theorem putD_go {hf : Vl → Nat} {d : Dc} {k v : Vl} (h : 0 ≤ placeI d k (hf k)) (hv : v.kind = 0) : putD hf d k v = goD hf d (placeI d k (hf k)).toNat := by
 unfold putD; rw [if_pos h, if_pos hv]
theorem putD_set {hf : Vl → Nat} {d : Dc} {k v : Vl} (h : 0 ≤ placeI d k (hf k)) (hv : v.kind ≠ 0) : putD hf d k v = setV d (placeI d k (hf k)).toNat v := by
 unfold putD; rw [if_pos h, if_neg hv]
theorem putD_come {hf : Vl → Nat} {d : Dc} {k v : Vl} (h : ¬ 0 ≤ placeI d k (hf k)) (hv : v.kind ≠ 0 ∧ d.live < 500 ∧ d.turns < 1000000000000) : putD hf d k v = comeD hf d k v := by
 unfold putD; rw [if_neg h, if_pos hv]
theorem putD_not {hf : Vl → Nat} {d : Dc} {k v : Vl} (h : ¬ 0 ≤ placeI d k (hf k)) (hv : ¬ (v.kind ≠ 0 ∧ d.live < 500 ∧ d.turns < 1000000000000)) : putD hf d k v = d := by
 unfold putD; rw [if_neg h, if_neg hv]
theorem putD_inv {K : Vl → Prop} {hf : Vl → Nat} {d : Dc} {k v : Vl} (KL : KeyLaw K hf) (h : Inv K hf d) (hk : K k) (hkb : keyB k = true) (hv : v.ok = true) : Inv K hf (putD hf d k v) := by
 rcases h.i0.place KL hk with ⟨i, h1, h2, h3, h4⟩ | ⟨h1, h2⟩
 ·have hp : 0 ≤ placeI d k (hf k) := by omega
  have hi : (placeI d k (hf k)).toNat = i := by omega
  by_cases hv0 : v.kind = 0
  ·rw [putD_go hp hv0, hi]; exact goD_inv KL h h1 h2
  ·rw [putD_set hp hv0, hi]; exact setV_inv h h1 h2 hv hv0
 ·have hp : ¬ 0 ≤ placeI d k (hf k) := by omega
  by_cases hc : v.kind ≠ 0 ∧ d.live < 500 ∧ d.turns < 1000000000000
  ·rw [putD_come hp hc]; exact comeD_inv KL h hk hkb hv hc.1 h1 hc.2.1 hc.2.2
  ·rw [putD_not hp hc]; exact h
end
section
open Go.RowKit
theorem feq_cases {x y : Nat} (h : feq x y = true) : (∃ s m i t n j, Ieee.double.read x = .number s m i ∧ Ieee.double.read y = .number t n j ∧ -1074 ≤ i ∧ -1074 ≤ j ∧ m < 2 ^ 53 ∧ n < 2 ^ 53 ∧ (i = -1074 ∨ 2 ^ 52 ≤ m) ∧ (j = -1074 ∨ 2 ^ 52 ≤ n) ∧ Fl.sc s m i = Fl.sc t n j) ∨ ∃ s, Ieee.double.read x = .infinity s ∧ Ieee.double.read y = .infinity s := by
 have h' : (Ieee.double.order x y == some .eq) = true := h
 rcases Fl.read_cases x with ⟨s, m, i, hr, hi, hi2, hm, hc⟩ | ⟨s, hr⟩ | ⟨s, t, hr⟩
 ·rcases Fl.read_cases y with ⟨t, n, j, hr', hj, hj2, hn, hc'⟩ | ⟨t, hr'⟩ | ⟨t, u, hr'⟩
  ·left
   rw [Fl.ord_of hr hr' hi hj, Fl.cmp_eq] at h'
   exact ⟨s, m, i, t, n, j, hr, hr', hi, hj, hm, hn, hc, hc', of_decide_eq_true h'⟩
  ·exfalso
   unfold Ieee.Format.order at h'
   rw [hr, hr'] at h'
   cases t <;> simp [Ieee.Datum.order] at h'
  ·exfalso
   unfold Ieee.Format.order at h'
   rw [hr, hr'] at h'
   simp [Ieee.Datum.order] at h'
 ·rcases Fl.read_cases y with ⟨t, n, j, hr', hj, hj2, hn, hc'⟩ | ⟨t, hr'⟩ | ⟨t, u, hr'⟩
  ·exfalso
   unfold Ieee.Format.order at h'
   rw [hr, hr'] at h'
   cases s <;> simp [Ieee.Datum.order] at h'
  ·right
   unfold Ieee.Format.order at h'
   rw [hr, hr'] at h'
   cases s <;> cases t <;> simp [Ieee.Datum.order] at h'
   ·exact ⟨false, hr, hr'⟩
   ·exact ⟨true, hr, hr'⟩
  ·exfalso
   unfold Ieee.Format.order at h'
   rw [hr, hr'] at h'
   simp [Ieee.Datum.order] at h'
 ·exfalso
  unfold Ieee.Format.order at h'
  rw [hr] at h'
  simp [Ieee.Datum.order] at h'
theorem feq_number {x y : Nat} {s t : Bool} {m n : Nat} {i j : Int} (hx : Ieee.double.read x = .number s m i) (hy : Ieee.double.read y = .number t n j) (hi : -1074 ≤ i) (hj : -1074 ≤ j) (e : Fl.sc s m i = Fl.sc t n j) : feq x y = true := by
 show (Ieee.double.order x y == some .eq) = true
 rw [Fl.ord_of hx hy hi hj, Fl.cmp_eq]
 exact decide_eq_true e
theorem feq_inf {x y : Nat} {s : Bool} (hx : Ieee.double.read x = .infinity s) (hy : Ieee.double.read y = .infinity s) : feq x y = true := by
 show (Ieee.double.order x y == some .eq) = true
 unfold Ieee.Format.order
 rw [hx, hy]
 cases s <;> simp [Ieee.Datum.order]
theorem feq_symm {x y : Nat} (h : feq x y = true) : feq y x = true := by
 rcases feq_cases h with ⟨s, m, i, t, n, j, h1, h2, h3, h4, _, _, _, _, e⟩ | ⟨s, h1, h2⟩
 ·exact feq_number h2 h1 h4 h3 e.symm
 ·exact feq_inf h2 h1
theorem feq_trans {x y z : Nat} (h : feq x y = true) (h' : feq y z = true) : feq x z = true := by
 rcases feq_cases h with ⟨s, m, i, t, n, j, h1, h2, h3, h4, _, _, _, _, e⟩ | ⟨s, h1, h2⟩
 ·rcases feq_cases h' with ⟨s', m', i', t', n', j', g1, g2, g3, g4, _, _, _, _, e'⟩ | ⟨s', g1, g2⟩
  ·rw [h2] at g1
   cases g1
   exact feq_number h1 g2 h3 g4 (e.trans e')
  ·rw [h2] at g1; cases g1
 ·rcases feq_cases h' with ⟨s', m', i', t', n', j', g1, g2, g3, g4, _, _, _, _, e'⟩ | ⟨s', g1, g2⟩
  ·rw [h2] at g1; cases g1
  ·rw [h2] at g1
   cases g1
   exact feq_inf h1 g2
theorem form_one {s t : Bool} {m n : Nat} {i j : Int} (hi : -1074 ≤ i) (hj : -1074 ≤ j) (hm : m < 2 ^ 53) (hn : n < 2 ^ 53) (hc : i = -1074 ∨ 2 ^ 52 ≤ m) (hc' : j = -1074 ∨ 2 ^ 52 ≤ n) (e : Fl.sc s m i = Fl.sc t n j) (h0 : Fl.sc s m i ≠ 0) : s = t ∧ m = n ∧ i = j := by
 have pos : ∀ (m : Nat) (i : Int), 0 ≤ Fl.sc false m i ∧ Fl.sc false m i = ((m * 2 ^ (i + 1074).toNat : Nat) : Int) := by
  intro m i
  have : Fl.sc false m i = ((m * 2 ^ (i + 1074).toNat : Nat) : Int) := by
   unfold Fl.sc
   rw [Fl.signed_eq]
   simp
  exact ⟨by rw [this]; omega, this⟩
 have core : ∀ {m n : Nat} {i j : Int}, -1074 ≤ i → -1074 ≤ j → m < 2 ^ 53 → n < 2 ^ 53 → (i = -1074 ∨ 2 ^ 52 ≤ m) → (j = -1074 ∨ 2 ^ 52 ≤ n) → Fl.sc false m i = Fl.sc false n j → Fl.sc false m i ≠ 0 → m = n ∧ i = j := by
  intro m n i j hi hj hm hn hc hc' e h0
  rw [(pos m i).2, (pos n j).2] at e
  have e' : m * 2 ^ (i + 1074).toNat = n * 2 ^ (j + 1074).toNat := by omega
  have le : ∀ {m n : Nat} {i j : Int}, -1074 ≤ i → m < 2 ^ 53 → (j = -1074 ∨ 2 ^ 52 ≤ n) → m * 2 ^ (i + 1074).toNat = n * 2 ^ (j + 1074).toNat → ¬ i < j := by
   intro m n i j hi hm hc' e hlt
   have hn : 2 ^ 52 ≤ n := hc'.resolve_left (by omega)
   obtain ⟨q, hq⟩ : ∃ q : Nat, (j + 1074).toNat = (i + 1074).toNat + (q + 1) := ⟨(j + 1074).toNat - (i + 1074).toNat - 1, by omega⟩
   rw [hq, Nat.pow_add, Nat.mul_comm (2 ^ (i + 1074).toNat), ← Nat.mul_assoc] at e
   have hm' : m = n * 2 ^ (q + 1) := Nat.eq_of_mul_eq_mul_right (Nat.two_pow_pos _) e
   have h1 : 2 ≤ 2 ^ (q + 1) := by rw [Nat.pow_succ]; have := Nat.two_pow_pos q; omega
   have h2 : n * 2 ≤ n * 2 ^ (q + 1) := Nat.mul_le_mul_left n h1
   omega
  have hij : i = j := by
   have h1 := le hi hm hc' e'
   have h2 := le hj hn hc e'.symm
   omega
  subst hij
  exact ⟨Nat.eq_of_mul_eq_mul_right (Nat.two_pow_pos _) e', rfl⟩
 cases s <;> cases t
 ·exact ⟨rfl, core hi hj hm hn hc hc' e h0⟩
 ·exfalso
  have e1 : Fl.sc true n j = - Fl.sc false n j := Fl.sc_neg n j
  have h1 := (pos m i).1
  have h2 := (pos n j).1
  omega
 ·exfalso
  have e1 : Fl.sc true m i = - Fl.sc false m i := Fl.sc_neg m i
  have h1 := (pos m i).1
  have h2 := (pos n j).1
  omega
 ·have e1 : Fl.sc true m i = - Fl.sc false m i := Fl.sc_neg m i
  have e2 : Fl.sc true n j = - Fl.sc false n j := Fl.sc_neg n j
  exact ⟨rfl, core hi hj hm hn hc hc' (by omega) (by omega)⟩
def Ky (v : Vl) : Prop := keyB v = true ∧ Wf v
theorem fz_feq {x y : Nat} (h : fz x = true) (h' : fz y = true) : feq x y = true := by
 have h1 : feq x 0 = true := h
 have h2 : feq y 0 = true := h'
 exact feq_trans h1 (feq_symm h2)
theorem like_flt {a b : Vl} (h : likeB a b = true) : feq a.flt b.flt = true ∧ a.str.toList = b.str.toList ∧ a.ref = b.ref := by
 unfold likeB at h
 simp only [Bool.and_eq_true, beq_iff_eq] at h
 exact ⟨h.2.2.1, h.2.2.2.1, h.2.2.2.2⟩
theorem like_mk {a b : Vl} (h1 : a.kind = b.kind) (h2 : a.num = b.num) (h3 : feq a.flt b.flt = true) (h4 : a.str.toList = b.str.toList) (h5 : a.ref = b.ref) : likeB a b = true := by
 unfold likeB
 simp [h1, h2, h3, h4, h5]
theorem key_float {v : Vl} (h : Ky v) (h3 : v.kind = 3) : fnan v.flt = false ∧ fz v.flt = false := (hk_of h.1 h.2).flt h3 |>.2
theorem toList_inj {a b : ByteArray} (h : a.toList = b.toList) : a.data.toList = b.data.toList := by
 rw [← ByteArray.toList_eq, ← ByteArray.toList_eq]
 exact h
theorem keyLaw : KeyLaw Ky hN := by
 refine ⟨fun a h => like_mk rfl rfl (key_feq h.1) rfl rfl, fun a b _ _ h => ?_, fun a b c _ _ _ h h' => ?_, fun a b ha hb h => ?_, fun a b ha hb k1 k2 k3 => ?_, fun n => ?_, ?_⟩
 ·obtain ⟨h1, h2, h3⟩ := like_flt h
  exact like_mk (like_kind h).symm (like_num h).symm (feq_symm h1) h2.symm h3.symm
 ·obtain ⟨h1, h2, h3⟩ := like_flt h
  obtain ⟨g1, g2, g3⟩ := like_flt h'
  exact like_mk ((like_kind h).trans (like_kind h')) ((like_num h).trans (like_num h')) (feq_trans h1 g1) (h2.trans g2) (h3.trans g3)
 ·obtain ⟨h1, h2, h3⟩ := like_flt h
  unfold hN
  congr 1
  unfold hashI
  rw [like_kind h, like_num h, h3]
  by_cases e4 : b.kind = 4
  ·rw [if_pos e4, if_pos e4, toList_inj h2]
  ·rw [if_neg e4, if_neg e4]
   by_cases e3 : b.kind = 3
   ·rw [if_pos e3, if_pos e3]
    congr 1
    have hz := (key_float ha ((like_kind h).trans e3)).2
    unfold ftOf
    rcases feq_cases h1 with ⟨s, m, i, t, n, j, g1, g2, g3, g4, g5, g6, g7, g8, e⟩ | ⟨s, g1, g2⟩
    ·have h0 : Fl.sc s m i ≠ 0 := by
      intro e0
      have : feq a.flt 0 = true := feq_number g1 Fl.read_nil g3 (by omega) (by rw [e0, Fl.sc_zero])
      have hz' : feq a.flt 0 = false := hz
      rw [this] at hz'
      cases hz'
     obtain ⟨r1, r2, r3⟩ := form_one g3 g4 g5 g6 g7 g8 e h0
     rw [g1, g2, r1, r2, r3]
    ·rw [g1, g2]
   ·rw [if_neg e3, if_neg e3]
 ·have hv : ∀ v : Vl, Ky v → v.kind = 2 → fz v.flt = true ∧ v.str.toList.isEmpty = true ∧ v.ref = 0 := by
   intro v h k
   have h1 := h.1
   unfold keyB Vl.ok at h1
   simp only [Bool.and_eq_true] at h1
   have h2 := h1.1.1
   unfold validB at h2
   simp [k] at h2
   exact ⟨h2.1.1, by simpa using h2.1.2, h2.2⟩
  obtain ⟨a1, a2, a3⟩ := hv a ha k1
  obtain ⟨b1, b2, b3⟩ := hv b hb k2
  exact like_mk (k1.trans k2.symm) k3 (fz_feq a1 b1) ((List.isEmpty_iff.1 a2).trans (List.isEmpty_iff.1 b2).symm) (a3.trans b3.symm)
 ·refine ⟨?_, ⟨by show 0 < 18446744073709551616; omega, by show (0 : Nat) ≤ maxLen; omega⟩⟩
  have hz : fz 0 = true := feq_number Fl.read_nil Fl.read_nil (by omega) (by omega) rfl
  unfold keyB Vl.ok validB intV
  simp [hz]
 ·have hz : fz 0 = true := feq_number Fl.read_nil Fl.read_nil (by omega) (by omega) rfl
  show noneB (⟨0, 0, 0, ⟨#[]⟩, 0⟩ : Vl) = true
  unfold noneB Vl.ok validB
  simp [hz]
theorem hsS_all : ∀ v, Ky v → HsS v (hN v) := fun v h => hsS h.1 h.2
theorem hsI_all : ∀ v, Ky v → HsI Tabs v (hN v) := fun v h => hsI h.1 h.2
end
section
open Go.RowKit
theorem fz_nil : fz 0 = true := by decide
theorem keyedK (v : Vl) (hw : Wf v) : ∃ (c : Int) (kv : Vl), keyV v.kind v.num v.flt v.str v.ref = KV c kv.kind kv.num kv.flt kv.str kv.ref ∧ (c = 0 → Ky kv) := by
 unfold keyV
 by_cases hv : validB v.kind v.num v.flt v.str v.ref = true
 ·rw [if_pos hv]
  by_cases h0 : v.kind = 0
  ·rw [if_pos h0]; exact ⟨1, ⟨0, 0, 0, ⟨#[]⟩, 0⟩, rfl, fun h => by omega⟩
  ·rw [if_neg h0]
   by_cases h3 : v.kind = 3
   ·rw [if_pos h3]
    by_cases hn : fnan v.flt = true
    ·rw [if_pos hn]; exact ⟨1, ⟨0, 0, 0, ⟨#[]⟩, 0⟩, rfl, fun h => by omega⟩
    ·rw [if_neg hn]
     by_cases hwh : wholeB v.flt = true
     ·rw [if_pos hwh]
      refine ⟨0, ⟨2, fint v.flt, 0, ⟨#[]⟩, 0⟩, rfl, fun _ => ⟨?_, ⟨by show (0 : Nat) < _; decide, Nat.zero_le _⟩⟩⟩
      unfold keyB Vl.ok validB
      simp [fz_nil]
     ·rw [if_neg hwh]
      refine ⟨0, v, rfl, fun _ => ⟨?_, hw⟩⟩
      unfold keyB Vl.ok
      rw [hv]
      simp [h0, hn, hwh]
   ·rw [if_neg h3]
    refine ⟨0, v, rfl, fun _ => ⟨?_, hw⟩⟩
    unfold keyB Vl.ok
    rw [hv]
    simp [h0, h3]
 ·rw [if_neg hv]; exact ⟨2, ⟨0, 0, 0, ⟨#[]⟩, 0⟩, rfl, fun h => by omega⟩
def noD : Dc := ⟨0, fun _ => default, 0, fun _ => 0, 0, fun _ => 0, 0, 0, 0⟩
theorem moveD_m (hf : Vl → Nat) : ∀ (f : Nat) (d : Dc), (moveD hf f d).m ≤ d.m + f := by
 intro f
 induction f with
 | zero => intro d; exact Nat.le_refl _
 | succ f ih =>
  intro d
  cases e : slotOf d (intV ((d.m : Int) + 1)) (hf (intV ((d.m : Int) + 1))) with
  | none => rw [moveD_none e]; omega
  | some s =>
   rw [moveD_some e]
   have := ih (moveS d s)
   have h2 : (moveS d s).m = d.m + 1 := rfl
   omega
theorem enter_m (hf : Vl → Nat) (c : Dc) (k' : Vl) (p : Nat) : (enterD hf c k' p).m = c.m := by
 unfold enterD
 cases freeSlot c.x c.X (hf k' % c.x) <;> rfl
theorem putD_m {K : Vl → Prop} {hf : Vl → Nat} {d : Dc} {k v : Vl} (KL : KeyLaw K hf) (h : Inv K hf d) (hk : K k) : (putD hf d k v).m ≤ d.m + 4002 := by
 rcases h.i0.place KL hk with ⟨i, h1, h2, h3, h4⟩ | ⟨h1, h2⟩
 ·have hp : 0 ≤ placeI d k (hf k) := by omega
  have hi : (placeI d k (hf k)).toNat = i := by omega
  by_cases hv0 : v.kind = 0
  ·rw [putD_go hp hv0, hi]
   have g := goC_inv KL h.i0 h.next h1 h2
   have e := (compactD_live (hf := hf) g.1.core).2.2.1
   show (compactD hf (goC hf d i)).m ≤ _
   rw [e]
   by_cases hs : smallK d.m (d.L i).key
   ·rw [goC_small hs]
    have := (shrink_says (upd d.I ((d.L i).key.num - 1).toNat 0) d.m).1
    show shrink (upd d.I ((d.L i).key.num - 1).toNat 0) d.m ≤ _
    omega
   ·obtain ⟨s, _, _, hs3⟩ := h.i0.found KL (h.i0.keys i h1 h2) ⟨h1, h2, hs⟩ (KL.refl _ (h.i0.keys i h1 h2))
    rw [goC_slot hs hs3]
    show d.m ≤ _
    omega
  ·rw [putD_set hp hv0, hi]
   show d.m ≤ _
   omega
 ·have hp : ¬ 0 ≤ placeI d k (hf k) := by omega
  by_cases hc : v.kind ≠ 0 ∧ d.live < 500 ∧ d.turns < 1000000000000
  ·rw [putD_come hp hc]
   have e := (compactD_live (hf := hf) h.i0.core).2.2.1
   have hcl := (compactD_live (hf := hf) h.i0.core).1
   have hci := compactD_inv h.i0
   show (comeC hf (compactD hf d) k v).m ≤ _
   generalize compactD hf d = c at e hci hcl
   have hcl : c.live < 500 := by rw [hcl]; exact hc.2.1
   have hcx : c.x ≤ 4000 := by
    rcases hci.sz with h | h
    ·omega
    ·exact h.2.1
   unfold comeC
   split
   ·show c.m ≤ _
    omega
   ·split
    ·have := moveD_m hf (c.x + 1) (addNext c k v)
     have h2 : (addNext c k v).m = c.m + 1 := rfl
     omega
    ·rw [enter_m]
     have hr := (roomD_inv hci hcl).2.2.m
     show (roomD hf c).m ≤ _
     omega
  ·rw [putD_not hp hc]; omega
theorem Inv.small {K : Vl → Prop} {hf : Vl → Nat} {d : Dc} (h : Inv K hf d) (hm : d.m ≤ 4194304) : Small d := by
 refine ⟨?_, hm, ?_⟩
 ·have := h.i0.le
  have := h.i0.log.cnt
  rcases h.tight with h | h <;> omega
 ·rcases h.i0.sz with h | h
  ·omega
  ·have := h.2.1; omega
end
section
open Go.RowKit
def setL : List Value → Nat → List Value → List Value
 | xs, _, [] => xs
 | xs, q, u :: us => setL (xs.set q u) (q + 1) us
def setW (g : Nat) : World → Nat → List Value → World
 | w, _, [] => w
 | w, q, u :: us => setW g (w.setCell ⟨g, q, none⟩ u) (q + 1) us
theorem setL_get : ∀ (us xs : List Value) (q j : Nat), q + us.length ≤ xs.length → (setL xs q us)[j]? = if q ≤ j ∧ j < q + us.length then us[j - q]? else xs[j]? := by
 intro us
 induction us with
 | nil => intro xs q j _; rw [if_neg (by simp)]; rfl
 | cons u us ih =>
  intro xs q j h
  simp only [List.length_cons] at h ⊢
  show (setL (xs.set q u) (q + 1) us)[j]? = _
  rw [ih _ _ _ (by simp; omega), List.getElem?_set]
  by_cases e : j = q
  ·subst e
   rw [if_neg (by omega), if_pos rfl, if_pos (by omega), if_pos (by omega), Nat.sub_self]
   rfl
  ·by_cases e2 : q + 1 ≤ j ∧ j < q + 1 + us.length
   ·rw [if_pos e2, if_pos (by omega)]
    obtain ⟨i, hi⟩ : ∃ i, j - q = i + 1 := ⟨j - q - 1, by omega⟩
    rw [hi, show j - (q + 1) = i by omega]
    rfl
   ·rw [if_neg e2, if_neg (fun e' => e e'.symm), if_neg (by omega)]
theorem own_setW {B e size g n cap : Nat} : ∀ (us : List Value) (w : World) (q : Nat) (xs : List Value), w.ownsRow B e size (.slice (some ⟨g, 0, none⟩) n cap) n xs → (setW g w q us).ownsRow B e size (.slice (some ⟨g, 0, none⟩) n cap) n (setL xs q us) := by
 intro us
 induction us with
 | nil => intro w q xs h; exact h
 | cons u us ih => intro w q xs h; exact ih _ _ _ (World.ownsRow.stored h q u).1
theorem setW_other {g : Nat} : ∀ (us : List Value) (w : World) (q b : Nat), b ≠ g → (setW g w q us).heap[b]? = w.heap[b]? := by
 intro us
 induction us with
 | nil => intro w q b _; rfl
 | cons u us ih => intro w q b hb; exact (ih _ _ _ hb).trans (Deep.blk_setCell_other _ _ _ _ (by exact hb))
theorem setW_size {g : Nat} : ∀ (us : List Value) (w : World) (q : Nat), (setW g w q us).heap.size = w.heap.size ∧ (setW g w q us).os = w.os ∧ (setW g w q us).tape = w.tape ∧ (setW g w q us).output = w.output := by
 intro us
 induction us with
 | nil => intro w q; exact ⟨rfl, rfl, rfl, rfl⟩
 | cons u us ih => intro w q; obtain ⟨h1, h2, h3, h4⟩ := ih (w.setCell ⟨g, q, none⟩ u) (q + 1); exact ⟨h1.trans (by simp), h2, h3, h4⟩
theorem pL_setL (f : Nat → Pr) (n i a : Nat) (us : List Value) (p : Pr) (hi : i < n) (ha : a + us.length ≤ 11) (hp : ∀ j, (prL p)[j]? = if a ≤ j ∧ j < a + us.length then us[j - a]? else (prL (f i))[j]?) : setL (pL f n) (i * 11 + a) us = pL (upd f i p) n := by
 apply List.ext_getElem?
 intro q
 rw [setL_get _ _ _ _ (by rw [pL_length]; omega)]
 by_cases hq : q < n * 11
 ·have e1 : q = q / 11 * 11 + q % 11 := by omega
  have h1 : q / 11 < n := by omega
  have h2 : q % 11 < 11 := Nat.mod_lt _ (by omega)
  have g1 : (pL f n)[q]? = (prL (f (q / 11)))[q % 11]? := by have := pL_get (f := f) h1 h2; rwa [← e1] at this
  have g2 : (pL (upd f i p) n)[q]? = (prL (upd f i p (q / 11)))[q % 11]? := by have := pL_get (f := upd f i p) h1 h2; rwa [← e1] at this
  rw [g2]
  by_cases e : q / 11 = i
  ·rw [e, upd_same, hp (q % 11)]
   by_cases e2 : a ≤ q % 11 ∧ q % 11 < a + us.length
   ·rw [if_pos (by omega), if_pos e2, show q - (i * 11 + a) = q % 11 - a by omega]
   ·rw [if_neg (by omega), if_neg e2, g1, e]
  ·rw [upd_other _ _ e, if_neg (by omega), g1]
 ·rw [if_neg (by omega), List.getElem?_eq_none (by rw [pL_length]; omega), List.getElem?_eq_none (by rw [pL_length]; omega)]
end
section
open Go.RowKit
def fillL (hf : Vl → Nat) (d : Dc) (x : Nat) (l : List Nat) : Dc := l.foldl (fun c p => enterD hf c (d.L p).key p) { d with x := x, X := fun _ => 0, used := 0 }
theorem fillL_snoc (hf : Vl → Nat) (d : Dc) (x : Nat) (l : List Nat) (p : Nat) : fillL hf d x (l ++ [p]) = enterD hf (fillL hf d x l) (d.L p).key p := by
 unfold fillL
 rw [List.foldl_append]
 rfl
structure FillOk (d : Dc) (sx N : Nat) (c : Dc) : Prop where
 x : c.x = sx
 n : c.n = d.n
 L : c.L = d.L
 m : c.m = d.m
 I : c.I = d.I
 live : c.live = d.live
 turns : c.turns = d.turns
 use : useN c.X sx ≤ N
 used : (useN c.X sx : Int) = c.used
 pos : ∀ j, j < sx → 0 ≤ c.X j
 up : ∀ j, j < sx → c.X j ≤ d.n
theorem FillOk.step {hf : Vl → Nat} {d c : Dc} {x N p : Nat} {k : Vl} (h : FillOk d x N c) (hN : N < x) (hp : p < d.n) : FillOk d x (N + 1) (enterD hf c k p) := by
 obtain ⟨t, ht, hf', hle, _⟩ := freeSlot_some (x := x) (a := hf k % x) (X := c.X) (Nat.mod_lt _ (by omega)) (by have := h.use; omega)
 have hs : (hf k % x + t) % x < x := Nat.mod_lt _ (by omega)
 have h0 : c.X ((hf k % x + t) % x) = 0 := by have := h.pos _ hs; omega
 generalize (hf k % x + t) % x = a at *
 have e := enterD_some (hf := hf) (d := c) (k := k) (p := p) (a := a) (by rw [h.x]; exact hf')
 rw [e]
 have hu := useN_put (v := (p : Int) + 1) (by omega) h0 x
 rw [if_pos hs] at hu
 refine ⟨h.x, h.n, h.L, h.m, h.I, h.live, h.turns, ?_, ?_, fun j hj => ?_, fun j hj => ?_⟩
 ·show useN (upd c.X a ((p : Int) + 1)) x ≤ N + 1
  rw [hu]; have := h.use; omega
 ·show ((useN (upd c.X a ((p : Int) + 1)) x : Nat) : Int) = if c.X a = 0 then c.used + 1 else c.used
  rw [hu, if_pos h0]; have := h.used; omega
 ·show 0 ≤ upd c.X a ((p : Int) + 1) j
  by_cases ej : j = a
  ·subst ej; rw [upd_same]; omega
  ·rw [upd_other _ _ ej]; exact h.pos j hj
 ·show upd c.X a ((p : Int) + 1) j ≤ d.n
  by_cases ej : j = a
  ·subst ej; rw [upd_same]; omega
  ·rw [upd_other _ _ ej]; exact h.up j hj
theorem FillOk.start (d : Dc) (x : Nat) : FillOk d x 0 { d with x := x, X := fun _ => 0, used := 0 } :=
 ⟨rfl, rfl, rfl, rfl, rfl, rfl, rfl, by show useN (fun _ => 0) x ≤ 0; rw [useN_zero]; exact Nat.le_refl _, by show ((useN (fun _ => 0) x : Nat) : Int) = 0; rw [useN_zero]; rfl, fun j hj => Int.le_refl _, fun j hj => by show (0 : Int) ≤ d.n; omega⟩
theorem fillL_ok {hf : Vl → Nat} {d : Dc} {x : Nat} {l : List Nat} (hl : l.length ≤ x) (hn : ∀ p ∈ l, p < d.n) : FillOk d x l.length (fillL hf d x l) := by
 suffices h : ∀ (k : Nat), k ≤ l.length → FillOk d x k (fillL hf d x (l.take k)) by
  have := h l.length (Nat.le_refl _)
  rwa [List.take_length] at this
 intro k
 induction k with
 | zero => intro _; exact FillOk.start d x
 | succ k ih =>
  intro hk
  have e : l.take (k + 1) = l.take k ++ [l[k]] := (List.take_append_getElem (by omega)).symm
  rw [e, fillL_snoc]
  exact (ih (by omega)).step (by omega) (hn _ (List.getElem_mem _))
noncomputable def hldL (d : Dc) (k : Nat) : List Nat := (livL d k).filter (fun i => !tells (smallK d.m (d.L i).key))
theorem hldL_no {d : Dc} {k : Nat} (h : (d.L k).turn = 0 ∨ smallK d.m (d.L k).key) : hldL d (k + 1) = hldL d k := by
 unfold hldL
 by_cases ht : (d.L k).turn = 0
 ·rw [livL_dead ht]
 ·rw [livL_live ht, List.filter_append]
  simp [tells_yes (h.resolve_left ht)]
theorem hldL_yes {d : Dc} {k : Nat} (ht : (d.L k).turn ≠ 0) (h : ¬ smallK d.m (d.L k).key) : hldL d (k + 1) = hldL d k ++ [k] := by
 unfold hldL
 rw [livL_live ht, List.filter_append]
 simp [tells_no h]
theorem hldL_le (d : Dc) (k : Nat) : (hldL d k).length ≤ (livL d k).length := List.length_filter_le _ _
theorem mem_hldL {d : Dc} {k i : Nat} (h : i ∈ hldL d k) : i < k ∧ (d.L i).turn ≠ 0 ∧ ¬ smallK d.m (d.L i).key := by
 unfold hldL at h
 obtain ⟨h1, h2⟩ := List.mem_filter.1 h
 obtain ⟨h3, h4⟩ := mem_livL.1 h1
 refine ⟨h3, h4, fun hs => ?_⟩
 rw [tells_yes hs] at h2
 exact absurd h2 (by decide)
theorem refill_fill {hf : Vl → Nat} {d : Dc} {x : Nat} (hp : ∀ i, i < d.n → (d.L i).turn ≠ 0 → 0 < (d.L i).turn) : ∀ k, k ≤ d.n → refill hf d x k = fillL hf d x (hldL d k) ∧ idxN d k = (hldL d k).length := by
 intro k
 induction k with
 | zero => intro _; exact ⟨rfl, rfl⟩
 | succ k ih =>
  intro hk
  obtain ⟨h1, h2⟩ := ih (by omega)
  by_cases h : indexedK d k
  ·have ht : (d.L k).turn ≠ 0 := by have := h.1; omega
   rw [refill_yes h, idxN_yes h, hldL_yes ht h.2, fillL_snoc, h1, h2, List.length_append]
   exact ⟨rfl, rfl⟩
  ·rw [refill_no h, idxN_no h, hldL_no (by
    by_cases ht : (d.L k).turn = 0
    ·exact .inl ht
    ·refine .inr (Classical.byContradiction fun hs => h ⟨hp k (by omega) ht, hs⟩))]
   exact ⟨h1, h2⟩
end
section
open Go.RowKit Go.Shelf
def QN (Q : Exit → Act → World → Prop) : Exit → Act → World → Prop
 | .normal, a, w => Q .normal a w
 | _, _, _ => False
theorem QN.no {Q : Exit → Act → World → Prop} : ¬ LetsOut (QN Q) := fun ⟨a, w, h⟩ => h
theorem QN.normal {Q : Exit → Act → World → Prop} {a : Act} {w : World} (h : Q .normal a w) : QN Q .normal a w := h
section
variable {P : Program} {ops : Array Oper} {md : Region.Mode}
theorem wpInR_of_wp {l n : Nat} {o : Oper} {a : Act} {K K' : Act → World → Prop} {Q : Exit → Act → World → Prop} {w : World} (hd : ∀ c, o.op ≠ .defer c) (h : ∀ a w, K a w → K' a w) (hh : o.wp P a w K (QN Q)) : o.wpIn (Fence.wide.inRound l) n P a w K' Q := by
 unfold Oper.wp at hh
 refine ⟨fun _ _ => trivial, ?_⟩
 show o.uponIn (Fence.wide.inRound l) n P a K' Q ((o.semAt (some l) a.eval).run P w)
 rw [Oper.semAt_some l _ _ hd]
 generalize (execOp a.eval o).run P w = r at *
 cases r with
 | ok x w' =>
  cases x <;> simp only [Oper.upon] at hh <;> simp only [Oper.uponIn]
  case value u => exact h _ _ hh
  case skip => exact h _ _ hh
  case defer d => exact h _ _ hh
  case enter f args =>
   refine ⟨fun hh => (by cases hh), CallsIn.inRound l (callsIn_wide.2 (hh.mono fun e w'' he => ?_))⟩
   cases e with
   | returned v => exact h _ _ he
   | panicked c => exact False.elim he
   | outgrown => exact absurd he QN.no
  case row row args =>
   refine ⟨fun hh => (by cases hh), fun c cs hr => ?_⟩
   obtain ⟨v, w'', r, s⟩ := hh c cs
   exact ⟨v, w'', h _ _ r, stepsIn_wide.2 s⟩
 | halt x w' => cases x <;> simp only [Oper.upon] at hh <;> exact False.elim hh
theorem wpOpInR_of_wpOp {l n i : Nat} {a : Act} {K K' : Act → World → Prop} {Q : Exit → Act → World → Prop} {w : World} (hd : noDefer ops = true) (h : ∀ a w, K a w → K' a w) (hh : wpOp P ops (QN Q) i K a w) : wpOpIn (Fence.wide.inRound l) n P ops Q i K' a w := by
 unfold wpOp at hh
 unfold wpOpIn
 split
 ·rename_i ho; simp only [ho] at hh; exact h _ _ hh
 ·rename_i o ho
  simp only [ho] at hh
  split
  ·rename_i hw
   simp only [hw, if_true] at hh
   rcases hh with hh | hh
   ·exact wpInR_of_wp (noDefer_spec hd ho) h hh
   ·exact absurd hh.2 QN.no
  ·rename_i hw; simp only [hw] at hh; exact ⟨fun _ _ => trivial, h _ _ hh⟩
theorem wpAnyInR_of_any {l n : Nat} {Q : Exit → Act → World → Prop} (hd : noDefer ops = true) : ∀ (fuel : Nat) (listed : Array Bool) (a : Act) (w : World), wpAny P md ops (QN Q) fuel listed a w → wpAnyIn (Fence.wide.inRound l) n P md ops Q fuel listed a w
 | 0, _, _, _, h => h
 | fuel + 1, _, _, _, h => ⟨h.1, fun i hi => wpOpInR_of_wpOp hd (fun a' w' h' => wpAnyInR_of_any hd fuel _ a' w' h') (h.2 i hi)⟩
theorem wpInR_held {l n id : Nat} {Q : Exit → Act → World → Prop} {a : Act} {w : World} (S : World → Prop) (hm : P.follows .mixedOrders = true) (hd : noDefer ops = true) (h : wpAnyH P .any ops (QN Q) S ops.size (Array.replicate ops.size false) a { w with drawn := w.drawn + 1 }) : (Code.region id ops true).wpIn (Fence.wide.inRound l) n P Q a w :=
 wpIn_region_any hm (wpAnyInR_of_any hd _ _ _ _ (wpAny_of_held _ _ _ _ h))
theorem tk {Q : Exit → Act → World → Prop} {S : World → Prop} {l rest : List Oper} (i : Nat) {oi : Oper} {v : Value} {fuel : Nat} {listed : Array Bool} {a : Act} {w : World} (hd : l.drop i = oi :: rest) (hc : (Region.noSelect l.toArray && Region.free md l.toArray listed i && (Region.ready md l.toArray listed).contains i) = true)
  (hw : Region.wanted oi (yielded l.toArray a.tmps) = true) (hy : ∀ w, S w → (execOp a.eval oi).run P w = .ok (.value v) w) (hS : S w) (h : wpAnyH P md l.toArray (QN Q) S fuel (listed.setIfInBounds i true) (a.put oi.dst v) w) : wpAnyH P md l.toArray (QN Q) S (fuel + 1) listed a w := by
 simp only [Bool.and_eq_true] at hc
 have hi : l.toArray[i]? = some oi := by
  have h1 : (l.drop i)[0]? = some oi := by rw [hd]; rfl
  rw [List.getElem?_drop] at h1
  simpa using h1
 exact wpAnyH_take hi hc.1.1 hc.1.2 hc.2 (fun _ _ _ h => h) (Or.inl ⟨hw, hy⟩) hS h
theorem QN.imp {Q : Exit → Act → World → Prop} : ∀ (e : Exit) (a : Act) (w : World), QN Q e a w → Q e a w := fun e a w h => by
 cases e <;> first | exact h | exact False.elim h
theorem wpN_held {id : Nat} {Q : Exit → Act → World → Prop} {a : Act} {w : World} (S : World → Prop) (hm : P.follows .mixedOrders = true) (h : wpAnyH P .any ops (QN Q) S ops.size (Array.replicate ops.size false) a { w with drawn := w.drawn + 1 }) : (Code.region id ops true).wp P Q a w :=
 Code.wp_mono QN.imp (wp_region_held hm h)
theorem wpInW_held {n id : Nat} {Q : Exit → Act → World → Prop} {a : Act} {w : World} (S : World → Prop) (hm : P.follows .mixedOrders = true) (h : wpAnyH P .any ops (QN Q) S ops.size (Array.replicate ops.size false) a { w with drawn := w.drawn + 1 }) : (Code.region id ops true).wpIn Fence.wide n P Q a w :=
 wpIn_wide.2 (wpN_held S hm h)
end
end
section
open Go.RowKit
def LogQ (Q : Pr → Prop) (d : Dc) : Prop := ∀ i, i < d.n → Q (d.L i)
section
variable {Q : Pr → Prop} {hf : Vl → Nat} {d c : Dc} {k v : Vl}
theorem LogQ.same (h : LogQ Q d) (hn : c.n = d.n) (hL : c.L = d.L) : LogQ Q c := fun i hi => by rw [hL]; exact h i (by omega)
theorem LogQ.updq (h : LogQ Q d) {p : Nat} {x : Pr} (hx : Q x) {n : Nat} (hn : ∀ i, i < n → i = p ∨ i < d.n) {c : Dc} (hc : c.n = n) (hL : c.L = upd d.L p x) : LogQ Q c := fun i hi => by
 rw [hL]
 by_cases e : i = p
 ·subst e; rw [upd_same]; exact hx
 ·rw [upd_other _ _ e]
  rcases hn i (by omega) with e' | e'
  ·exact absurd e' e
  ·exact h i e'
theorem enterD_log (p : Nat) : (enterD hf d k p).n = d.n ∧ (enterD hf d k p).L = d.L := by
 unfold enterD
 split <;> exact ⟨rfl, rfl⟩
theorem refill_log (x : Nat) : ∀ k, (refill hf d x k).n = d.n ∧ (refill hf d x k).L = d.L
 | 0 => ⟨rfl, rfl⟩
 | k + 1 => by
  by_cases h : indexedK d k
  ·rw [refill_yes h]
   have h1 := enterD_log (hf := hf) (d := refill hf d x k) (k := (d.L k).key) k
   have h2 := refill_log x k
   exact ⟨h1.1.trans h2.1, h1.2.trans h2.2⟩
  ·rw [refill_no h]; exact refill_log x k
theorem reindexD_log (more : Nat) : (reindexD hf d more).n = d.n ∧ (reindexD hf d more).L = d.L := by
 by_cases h : idxN d d.n + more = 0
 ·rw [reindexD_none h]; exact ⟨rfl, rfl⟩
 ·rw [reindexD_some h]; exact refill_log _ _
theorem moveD_log : ∀ (f : Nat) (d : Dc), (moveD hf f d).n = d.n ∧ (moveD hf f d).L = d.L
 | 0, d => ⟨rfl, rfl⟩
 | f + 1, d => by
  cases h : slotOf d (intV ((d.m : Int) + 1)) (hf (intV ((d.m : Int) + 1))) with
  | none => rw [moveD_none h]; exact ⟨rfl, rfl⟩
  | some s => rw [moveD_some h]; exact moveD_log f (moveS d s)
theorem LogQ.pack (h : LogQ Q d) : LogQ Q (packD d) := fun j hj => by
 obtain ⟨i, h1, h2, h3⟩ := rank_surj d.n hj
 have e : lvF d j = d.L i := by rw [← h3]; exact lvF_at h1 h2
 show Q (lvF d j)
 rw [e]
 exact h i h1
theorem LogQ.compact (h : LogQ Q d) : LogQ Q (compactD hf d) := by
 unfold compactD
 split
 ·exact h
 ·exact h.pack.same (reindexD_log _).1 (reindexD_log _).2
theorem LogQ.add (h : LogQ Q c) (hx : Q ⟨k, v, c.turns + 1⟩) : LogQ Q (addL c k v) := h.updq hx (n := c.n + 1) (fun i hi => by omega) rfl rfl
theorem roomD_log : (roomD hf c).n = c.n ∧ (roomD hf c).L = c.L := by
 unfold roomD
 split
 ·exact reindexD_log _
 ·exact ⟨rfl, rfl⟩
theorem LogQ.comeq (h : LogQ Q c) (hx : ∀ t, Q ⟨k, v, t⟩) : LogQ Q (comeC hf c k v) := by
 unfold comeC
 split
 ·exact (h.add (k := k) (v := v) (hx _)).same rfl rfl
 ·split
  ·exact (h.add (k := k) (v := v) (hx _)).same (moveD_log _ _).1 (moveD_log _ _).2
  ·exact ((h.same roomD_log.1 roomD_log.2).add (c := roomD hf c) (k := k) (v := v) (hx _)).same (enterD_log _).1 (enterD_log _).2
theorem LogQ.goq (h : LogQ Q d) (h0 : Q default) (p : Nat) : LogQ Q (goC hf d p) := by
 have hd : LogQ Q (deadL d p) := fun i hi => by
  show Q (upd d.L p default i)
  by_cases e : i = p
  ·subst e; rw [upd_same]; exact h0
  ·rw [upd_other _ _ e]; exact h i hi
 unfold goC
 split
 ·exact hd.same rfl rfl
 ·split
  ·exact h
  ·exact hd.same rfl rfl
theorem LogQ.put (h : LogQ Q d) (hx : ∀ t, Q ⟨k, v, t⟩) (h0 : Q default) (hs : ∀ x : Pr, Q x → Q ⟨x.key, v, x.turn⟩) : LogQ Q (putD hf d k v) := by
 unfold putD
 split
 ·split
  ·exact (h.goq h0 _).compact
  ·intro i hi
   show Q (upd d.L _ _ i)
   by_cases e : i = (placeI d k (hf k)).toNat
   ·subst e; rw [upd_same]; exact hs _ (h _ hi)
   ·rw [upd_other _ _ e]; exact h i hi
 ·split
  ·exact h.compact.comeq hx
  ·exact h
end
theorem WfD.put {hf : Vl → Nat} {d : Dc} {k v : Vl} (h : WfD d) (hk : Wf k) (hv : Wf v) : WfD (putD hf d k v) :=
 LogQ.put (Q := fun p => Wf p.key ∧ Wf p.val) h (fun _ => ⟨hk, hv⟩) ⟨⟨by decide, by decide⟩, ⟨by decide, by decide⟩⟩ (fun x hx => ⟨hx.1, hv⟩)
abbrev Nz (k : Vl) : Prop := k.flt ≠ 9223372036854775808
def NzP (p : Pr) : Prop := Nz p.key
theorem NzP.put {hf : Vl → Nat} {d : Dc} {k v : Vl} (h : LogQ NzP d) (hk : Nz k) : LogQ NzP (putD hf d k v) :=
 LogQ.put (Q := NzP) h (fun _ => hk) (by show (0 : Nat) ≠ 9223372036854775808; decide) (fun x hx => hx)
theorem NzP.noD : LogQ NzP noD := fun i hi => by cases hi
theorem keyV_nz {v kv : Vl} {c : Int} (h : keyV v.kind v.num v.flt v.str v.ref = KV c kv.kind kv.num kv.flt kv.str kv.ref) (hz : Nz v) : Nz kv := by
 have key : kv.flt = 0 ∨ kv.flt = v.flt := by
  unfold keyV at h
  split at h
  ·split at h
   ·simp at h; exact .inl h.2.2.2.1.symm
   ·split at h
    ·split at h
     ·simp at h; exact .inl h.2.2.2.1.symm
     ·split at h
      ·simp at h; exact .inl h.2.2.2.1.symm
      ·simp at h; exact .inr h.2.2.2.1.symm
    ·simp at h; exact .inr h.2.2.2.1.symm
  ·simp at h; exact .inl h.2.2.2.1.symm
 rcases key with e | e
 ·show kv.flt ≠ _
  rw [e]; decide
 ·show kv.flt ≠ _
  rw [e]; exact hz
theorem WfD.noD : WfD noD := fun i hi => by cases hi
theorem noD_inv {K : Vl → Prop} {hf : Vl → Nat} : Inv K hf noD :=
 ⟨⟨⟨fun i hi => (by cases hi), fun i j _ hj => (by cases hj), rfl⟩, fun i hi => (by cases hi), fun i j hi => (by cases hi), fun j hj => (by cases hj), .inl rfl, fun i hi => (by cases hi), .inl rfl,
  Idx.empty _ _ _ _ (fun i h => by cases h.1), rfl, Nat.le_refl _, ⟨by decide, by decide⟩, by decide⟩, fun i hi => (by cases hi), .inl (by decide)⟩
end
section
open Go.RowKit
def Has (d : Dc) (p : Pr) : Prop := ∃ i, i < d.n ∧ (d.L i).turn ≠ 0 ∧ d.L i = p
theorem has_at {d : Dc} {i : Nat} (h1 : i < d.n) (h2 : (d.L i).turn ≠ 0) : Has d (d.L i) := ⟨i, h1, h2, rfl⟩
section
variable {K : Vl → Prop} {hf : Vl → Nat} {d : Dc} {k v : Vl}
theorem Inv.uniq (h : Inv K hf d) {p q : Pr} (hp : Has d p) (hq : Has d q) (e : likeB p.key q.key = true) : p = q := by
 obtain ⟨i, h1, h2, rfl⟩ := hp
 obtain ⟨j, g1, g2, rfl⟩ := hq
 rw [h.i0.dist i j h1 g1 h2 g2 e]
theorem Inv.keyOf (h : Inv K hf d) {p : Pr} (hp : Has d p) : K p.key := by
 obtain ⟨i, h1, h2, rfl⟩ := hp
 exact h.i0.keys i h1 h2
theorem Inv.entry (h : Inv K hf d) {p : Pr} (hp : Has d p) : 0 < p.turn ∧ p.turn ≤ d.turns ∧ p.val.ok = true ∧ p.val.kind ≠ 0 := by
 obtain ⟨i, h1, h2, rfl⟩ := hp
 rcases h.i0.log.ent i h1 with e | e
 ·exact absurd e.1 h2
 ·exact ⟨e.1, e.2.1, e.2.2.2⟩
theorem compact_has (h : Core K d) (p : Pr) : Has (compactD hf d) p ↔ Has d p := compactD_pairs h (fun q => q = p)
inductive PutSays (d e : Dc) (k v : Vl) : Prop
 | go (q : Pr) (hq : Has d q) (hl : likeB q.key k = true) (hv : v.kind = 0) (has : ∀ p, Has e p ↔ Has d p ∧ likeB p.key k = false) (live : e.live = d.live - 1) (turns : e.turns = d.turns)
 | set (q : Pr) (hq : Has d q) (hl : likeB q.key k = true) (hv : v.kind ≠ 0) (has : ∀ p, Has e p ↔ (Has d p ∧ likeB p.key k = false) ∨ p = ⟨q.key, v, q.turn⟩) (live : e.live = d.live) (turns : e.turns = d.turns)
 | come (hno : ∀ p, Has d p → likeB p.key k = false) (hv : v.kind ≠ 0) (has : ∀ p, Has e p ↔ Has d p ∨ p = ⟨k, v, d.turns + 1⟩) (live : e.live = d.live + 1) (turns : e.turns = d.turns + 1)
 | not (hno : ∀ p, Has d p → likeB p.key k = false) (hv : ¬ (v.kind ≠ 0 ∧ d.live < 500 ∧ d.turns < 1000000000000)) (eq : e = d)
theorem like_iff (KL : KeyLaw K hf) (h : Inv0 K hf d) (hk : K k) {i : Nat} (h1 : i < d.n) (h2 : (d.L i).turn ≠ 0) (h3 : likeB (d.L i).key k = true) {j : Nat} (g1 : j < d.n) (g2 : (d.L j).turn ≠ 0) : likeB (d.L j).key k = false ↔ j ≠ i := by
 constructor
 ·intro e he
  subst he
  rw [h3] at e
  exact absurd e (by decide)
 ·intro e
  by_cases hl : likeB (d.L j).key k = true
  ·refine absurd (h.dist j i g1 h1 g2 h2 ?_) e
   exact KL.trans _ _ _ (h.keys j g1 g2) hk (h.keys i h1 h2) hl (KL.symm _ _ (h.keys i h1 h2) hk h3)
  ·simpa using hl
theorem put_says (KL : KeyLaw K hf) (h : Inv K hf d) (hk : K k) (hkb : keyB k = true) (hv : v.ok = true) : PutSays d (putD hf d k v) k v := by
 rcases h.i0.place KL hk with ⟨i, h1, h2, h3, h4⟩ | ⟨h1, h2⟩
 ·have hp : 0 ≤ placeI d k (hf k) := by omega
  have hi : (placeI d k (hf k)).toNat = i := by omega
  by_cases hv0 : v.kind = 0
  ·rw [putD_go hp hv0, hi]
   obtain ⟨g1, g2, g3, g4, g5, g6⟩ := goC_inv KL h.i0 h.next h1 h2
   have c := compactD_live (hf := hf) g1.core
   refine .go (d.L i) (has_at h1 h2) h3 hv0 (fun p => ?_) (c.1.trans g5) (c.2.1.trans g6)
   refine (compact_has g1.core p).trans ?_
   constructor
   ·rintro ⟨j, j1, j2, rfl⟩
    rw [g4] at j2 ⊢
    by_cases e : j = i
    ·subst e; rw [upd_same] at j2; exact absurd rfl j2
    ·rw [upd_other _ _ e] at j2 ⊢
     exact ⟨has_at (by omega) j2, (like_iff KL h.i0 hk h1 h2 h3 (by omega) j2).2 e⟩
   ·rintro ⟨⟨j, j1, j2, rfl⟩, hl⟩
    have e := (like_iff KL h.i0 hk h1 h2 h3 j1 j2).1 hl
    refine ⟨j, by omega, ?_, ?_⟩
    ·rw [g4, upd_other _ _ e]; exact j2
    ·rw [g4, upd_other _ _ e]
  ·rw [putD_set hp hv0, hi]
   refine .set (d.L i) (has_at h1 h2) h3 hv0 (fun p => ?_) rfl rfl
   constructor
   ·rintro ⟨j, j1, j2, rfl⟩
    by_cases e : j = i
    ·subst e; right; exact upd_same _ _ _
    ·left
     have e2 : (setV d i v).L j = d.L j := upd_other _ _ e
     rw [e2] at j2 ⊢
     exact ⟨has_at j1 j2, (like_iff KL h.i0 hk h1 h2 h3 j1 j2).2 e⟩
   ·rintro (⟨⟨j, j1, j2, rfl⟩, hl⟩ | rfl)
    ·have e := (like_iff KL h.i0 hk h1 h2 h3 j1 j2).1 hl
     have e2 : (setV d i v).L j = d.L j := upd_other _ _ e
     exact ⟨j, j1, by rw [e2]; exact j2, e2⟩
    ·have e2 : (setV d i v).L i = ⟨(d.L i).key, v, (d.L i).turn⟩ := upd_same _ _ _
     exact ⟨i, h1, by rw [e2]; exact h2, e2⟩
 ·have hp : ¬ 0 ≤ placeI d k (hf k) := by omega
  have hno : ∀ p, Has d p → likeB p.key k = false := by
   rintro p ⟨i, i1, i2, rfl⟩
   exact h1 i i1 i2
  by_cases hc : v.kind ≠ 0 ∧ d.live < 500 ∧ d.turns < 1000000000000
  ·rw [putD_come hp hc]
   have c := compactD_live (hf := hf) h.i0.core
   have hci := compactD_inv h.i0
   have hcn := compactD_next (hf := hf) h.i0.core h.next
   have hch := fun p => compact_has (hf := hf) h.i0.core p
   have hcno : ∀ i, i < (compactD hf d).n → ((compactD hf d).L i).turn ≠ 0 → likeB ((compactD hf d).L i).key k = false := fun i i1 i2 => hno _ ((hch _).1 (has_at i1 i2))
   obtain ⟨g1, g2, g3, g4, g5, g6⟩ := comeC_inv KL hci hcn hk hkb hv hc.1 hcno (by rw [c.1]; exact hc.2.1) (by rw [c.2.1]; exact hc.2.2)
   have et : (compactD hf d).turns = d.turns := c.2.1
   refine .come hno hc.1 (fun p => ?_) (by rw [← c.1]; exact g5) (by rw [← et]; exact g6)
   show Has (comeC hf (compactD hf d) k v) p ↔ _
   rw [← et]
   constructor
   ·rintro ⟨j, j1, j2, rfl⟩
    rw [g4] at j2 ⊢
    by_cases e : j = (compactD hf d).n
    ·subst e; right; exact upd_same _ _ _
    ·left
     rw [upd_other _ _ e] at j2 ⊢
     exact (hch _).1 (has_at (by omega) j2)
   ·rintro (hp | rfl)
    ·obtain ⟨j, j1, j2, rfl⟩ := (hch p).2 hp
     refine ⟨j, by omega, ?_, ?_⟩
     ·rw [g4, upd_other _ _ (by omega)]; exact j2
     ·rw [g4, upd_other _ _ (by omega)]
    ·refine ⟨(compactD hf d).n, by omega, ?_, ?_⟩
     ·rw [g4, upd_same]; show (compactD hf d).turns + 1 ≠ 0; have := hci.turns.1; omega
     ·rw [g4, upd_same]
  ·rw [putD_not hp hc]
   exact .not hno hc rfl
theorem put_turns (KL : KeyLaw K hf) (h : Inv K hf d) (hk : K k) (hkb : keyB k = true) (hv : v.ok = true) : d.turns ≤ (putD hf d k v).turns ∧ (putD hf d k v).turns ≤ d.turns + 1 := by
 rcases put_says KL h hk hkb hv with ⟨q, _, _, _, _, _, t⟩ | ⟨q, _, _, _, _, _, t⟩ | ⟨_, _, _, _, t⟩ | ⟨_, _, e⟩
 ·omega
 ·omega
 ·omega
 ·rw [e]; omega
end
end
end Go.Proofs.YtglcaejddckleaaGreatDoor
