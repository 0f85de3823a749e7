/-
  Digits, Mark, KdA.
-/
import Derived.Test.YtnjgebncghdajaaGreatDoorHide
import Derived.WalkSpells
import Derived.WalkLawsBesides
import Derived.Lib.ItoaLen
import Derived.Laws.IdiomStrings
import Derived.Test.YtnjgebncghdajaaGreatDoorFlt
import Derived.Test.YtnjgebncghdajaaGreatDoorIdRP
namespace Go.Proofs.YtnjgebncghdajaaGreatDoor
open Go.RowKit
set_option linter.unusedVariables false

theorem ba_append (a b : List UInt8) : (⟨a.toArray⟩ ++ ⟨b.toArray⟩ : ByteArray) = ⟨(a ++ b).toArray⟩ := by
  apply ByteArray.ext
  simp
theorem ret_str {a b : ByteArray} (h : a = b) : Ending.returned (.string a) = .returned (.string b) := by rw [h]

theorem digits_small {u : Nat} (h : u < 10) : Lib.decDigits u = [UInt8.ofNat (48 + u)] := by rw [Lib.decDigits, dif_pos h]
theorem digits_big {u : Nat} (h : ¬ u < 10) : Lib.decDigits u = Lib.decDigits (u / 10) ++ [UInt8.ofNat (48 + u % 10)] := by rw [Lib.decDigits, dif_neg h]
theorem digits_len (u : Nat) (h : u < 9223372036854775808) : (Lib.decDigits u).length ≤ 21 := by
  have := Lib.itoa_length_le (u : Int) (by omega) (by omega)
  rw [Lib.itoa, if_neg (by omega)] at this
  simpa using this

/-- The last digit's letter. -/
def dig (u : Nat) : UInt8 := UInt8.ofNat (48 + u % 10)
theorem conv_digit (u : Nat) (wr : World) : (convert 86 9 (.slice (some ⟨wr.heap.size, 0, none⟩) 1 1)).run Tryz.prog (wr.alloc (.cells #[.int .u8 (48 + (u : Int) % 10)] 5)) = .ok (.string ⟨[dig u].toArray⟩) (wr.alloc (.cells #[.int .u8 (48 + (u : Int) % 10)] 5)) :=
  run_convert_bytes_back (P := Tryz.prog) (wr.alloc (.cells #[.int .u8 (48 + (u : Int) % 10)] 5)) 86 9 5 ⟨wr.heap.size, 0, none⟩ 1 [dig u] Tryz.underlying86 Tryz.underlying5 Tryz.underlying9 (by
    intro j hj
    have : j = 0 := by simpa using hj
    subst this
    have e : (dig u).toNat = 48 + u % 10 := by
      unfold dig; rw [UInt8.toNat_ofNat']; omega
    simp [Addr.add, go_sem, e])

end Go.Proofs.YtnjgebncghdajaaGreatDoor
namespace Go.Proofs.YtnjgebncghdajaaGreatDoor
open Go.RowKit
set_option linter.unusedVariables false

/-- The mark of k. -/
def mark (k : Nat) : ByteArray := ⟨(109 :: Lib.decDigits k).toArray⟩

def digs (u : Nat) : List UInt8 := if u = 0 then [] else Lib.decDigits u

theorem digs_step {u : Nat} (h : 0 < u) : digs u = digs (u / 10) ++ [dig u] := by
  unfold digs
  rw [if_neg (by omega)]
  by_cases h10 : u < 10
  · rw [digits_small h10, if_pos (by omega)]
    unfold dig
    rw [Nat.mod_eq_of_lt h10]; rfl
  · rw [digits_big h10, if_neg (by omega)]; rfl

set_option maxRecDepth 100000 in
set_option maxHeartbeats 1000000 in
theorem markText_any (k : Nat) (hk : k < 9007199254740992) (w : World) :
    Calls Tryz.prog 21 #[.int .i64 (k : Int)] w fun e w' => e = .returned (.string (mark k)) ∧ Below w.heap.size w w' := by
  by_cases h0 : k = 0
  · subst h0
    go_enter Tryz.func21, Tryz.ntmps21
    go_wp2
    go_ret
    exact ⟨ret_str (by unfold mark; rw [digits_small (by omega)]; rfl), Below.refl _ _⟩
  have hl := digits_len k (by omega)
  have HE : Hid (Lib.decDigits k = digs k) := hide (by unfold digs; rw [if_neg h0])
  have hk0 : 0 < k := by omega
  go_enter Tryz.func21, Tryz.ntmps21
  go_wp2
  go_loopw [0, 3] (fun a o wr => ∃ (u : Nat) (l : List UInt8), u ≤ k ∧ a = .int .i64 (u : Int) ∧ o = .string ⟨l.toArray⟩ ∧ Lib.decDigits k = digs u ++ l ∧ Below w.heap.size w wr) (fun a _ _ => (intOf a).toNat)
  case atStart => exact ⟨k, [], Nat.le_refl _, rfl, rfl, by rw [unhide HE]; simp, Below.refl _ _⟩
  case round =>
    obtain ⟨u, l, hu, rfl, rfl, hd, hb⟩ := hrel
    have HD : Hid (Lib.decDigits k = digs u ++ l) := hd
    have hll : l.length ≤ 21 := by have := congrArg List.length hd; rw [List.length_append] at this; omega
    clear hd
    have hcv := conv_digit u wr
    go_wp2
    · have hu0 : 0 < u := by assumption
      go_roundw
      case rel =>
        refine ⟨u / 10, dig u :: l, by omega, by go_num, ?_, ?_, hb.alloc hb.size _⟩
        · rw [ba_append]; rfl
        · rw [HD.out, digs_step hu0, List.append_assoc]; rfl
      case measure => simp [intOf]; omega
    · have hu0 : u = 0 := by omega
      subst hu0
      go_ret
      refine ⟨ret_str ?_, hb⟩
      unfold mark
      rw [HD.out]
      apply ByteArray.ext
      simp [digs]
end Go.Proofs.YtnjgebncghdajaaGreatDoor
namespace Go.Proofs.YtnjgebncghdajaaGreatDoor
open Go.RowKit
set_option linter.unusedVariables false

/-- All but one block lie as they lay. -/
structure Bu (b : Nat) (w w' : World) : Prop where
  os : w'.os = w.os
  tape : w'.tape = w.tape
  output : w'.output = w.output
  size : w.heap.size ≤ w'.heap.size
  block : ∀ k, k < w.heap.size → k ≠ b → w'.heap[k]? = w.heap[k]?
theorem Bu.refl (b : Nat) (w : World) : Bu b w w := ⟨rfl, rfl, rfl, Nat.le_refl _, fun _ _ _ => rfl⟩
theorem Bu.trans {b : Nat} {u v w : World} (h : Bu b u v) (k : Bu b v w) : Bu b u w :=
  ⟨k.os.trans h.os, k.tape.trans h.tape, k.output.trans h.output, Nat.le_trans h.size k.size, fun i hi hn => (k.block i (Nat.lt_of_lt_of_le hi h.size) hn).trans (h.block i hi hn)⟩
theorem Bu.of {b : Nat} {w w' : World} (h : Below w.heap.size w w') : Bu b w w' := ⟨h.os, h.tape, h.output, h.size, fun k hk _ => h.block k hk⟩
theorem Bu.set (b o : Nat) (w : World) (v : Value) : Bu b w (w.setCell ⟨b, o, none⟩ v) := ⟨rfl, rfl, rfl, by simp [World.setCell], fun k _ hn => Deep.blk_setCell_other _ _ _ _ (by exact hn)⟩
theorem Bu.below {b B : Nat} {w w' : World} (h : Bu b w w') (hb : B ≤ b) (hB : B ≤ w.heap.size) : Below B w w' := ⟨h.os, h.tape, h.output, h.size, fun k hk => h.block k (by omega) (by omega)⟩
theorem fselfR (k : Int) (h0 : 0 ≤ k) (hk : k < 9007199254740992) : (FloatKind.f64.format.order (floatOfInt .f64 k) (floatOfInt .f64 k) != some .eq) = false := by
  obtain ⟨q, l, hr, hl, hv⟩ := Fl.nearest_whole (decide (k < 0)) k.natAbs (Fl.fits_small (by omega))
  have hx : Ieee.double.read (floatOfInt .f64 k) = .number (decide (k < 0)) q l := hr
  show (!(Ieee.double.order _ _ == some .eq)) = false
  rw [Fl.ord_of hx hx hl hl, Fl.cmp_eq]; simp
end Go.Proofs.YtnjgebncghdajaaGreatDoor
