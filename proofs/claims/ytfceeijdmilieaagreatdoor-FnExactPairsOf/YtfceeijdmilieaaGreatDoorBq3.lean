/-
  HashB, HashA, HashC, Digits, HashD, HashE.
-/
import Derived.Test.YtfceeijdmilieaaGreatDoorBq2
import Derived.Test.YtfceeijdmilieaaGreatDoorChecked
import GoSem.Claim
import GoSem.ClaimJoined
import GoSem.ClaimMapViews
import Derived.JoinedTies
import Derived.KernelRfl
import Derived.RowKit
import Derived.WalkKit
import Derived.WalkSpells
import Derived.WalkLawsBesides
import Derived.Laws.Externs
import Derived.Shelf.Spec.TrailingZeros
import Derived.Test.YtfceeijdmilieaaGreatDoorShelf
import Derived.Lib.AppendIntMem
import Derived.WalkSmall
import Derived.Test.YtfceeijdmilieaaGreatDoorHide
import Derived.Lib.ItoaLen
import Derived.Laws.IdiomStrings
namespace Go.Proofs.YtfceeijdmilieaaGreatDoor
open Go.RowKit
set_option linter.unusedVariables false

theorem run_bits64 (x : Nat) (w : World) : (callFunc 269 #[.float .f64 x]).run Tryz.prog w = .ok (.value (.int .u64 (x : Int))) w := by
  rw [run_callFunc_extern (e := Extern.MathFloatBits.float64bits) Tryz.func269 (by kernel_rfl) (by kernel_rfl) (by kernel_rfl) (by kernel_rfl)]
  rfl
theorem run_frombits64 (x : Nat) (w : World) : (callFunc 270 #[.int .u64 (x : Int)]).run Tryz.prog w = .ok (.value (.float .f64 x)) w := by
  rw [run_callFunc_extern (e := Extern.MathFloatBits.float64frombits) Tryz.func270 (by kernel_rfl) (by kernel_rfl) (by kernel_rfl) (by kernel_rfl)]
  rfl

set_option maxHeartbeats 400000 in
theorem abs_any (x y : Nat) (w : World) (h : bits BinOp.andNot IntKind.u64 (x : Int) 9223372036854775808 = (y : Int)) :
    Calls Tryz.prog 267 #[.float .f64 x] w fun e w' => e = .returned (.float .f64 y) ∧ w' = w := by
  have h1 := run_bits64 x
  have h2 := run_frombits64 y
  go_enter Tryz.func267, Tryz.ntmps267
  go_wp2
  go_ret
  exact ⟨rfl, rfl⟩

set_option maxHeartbeats 400000 in
theorem isInf_zero (x y : Nat) (w : World) (h : bits BinOp.andNot IntKind.u64 (x : Int) 9223372036854775808 = (y : Int)) :
    Calls Tryz.prog 255 #[.float .f64 x, .int .i64 0] w fun e w' => e = .returned (.bool (FloatKind.f64.format.order y 9218868437227405311 == some .gt)) ∧ w' = w := by
  have H : Hid (bits BinOp.andNot IntKind.u64 (x : Int) 9223372036854775808 = (y : Int)) := h
  clear h
  go_enter Tryz.func255, Tryz.ntmps255
  go_wp2_with (go_at_call 267; refine (abs_any x y _ H.out).mono ?_; rintro e w1 ⟨rfl, rfl⟩)
  go_ret
  exact ⟨rfl, rfl⟩

set_option maxHeartbeats 400000 in
theorem isInf_pos (x : Nat) (w : World) :
    Calls Tryz.prog 255 #[.float .f64 x, .int .i64 1] w fun e w' => e = .returned (.bool (FloatKind.f64.format.order x 9218868437227405311 == some .gt)) ∧ w' = w := by
  go_enter Tryz.func255, Tryz.ntmps255
  go_wp2
  go_ret
  exact ⟨rfl, rfl⟩

set_option maxHeartbeats 400000 in
theorem isInf_neg (x : Nat) (w : World) :
    Calls Tryz.prog 255 #[.float .f64 x, .int .i64 (-1)] w fun e w' => e = .returned (.bool (FloatKind.f64.format.order (Op.negFloat .f64 x) 9218868437227405311 == some .gt)) ∧ w' = w := by
  have hneg : ∀ w : World, (Op.unary .neg (.float .f64 x)).run Tryz.prog w = .ok (.float .f64 (Op.negFloat .f64 x)) w := fun _ => rfl
  go_enter Tryz.func255, Tryz.ntmps255
  go_wp2
  go_ret
  exact ⟨rfl, rfl⟩

set_option maxHeartbeats 400000 in
theorem normalize_small (x y r : Nat) (w : World) (h : bits BinOp.andNot IntKind.u64 (x : Int) 9223372036854775808 = (y : Int)) (hlt : (FloatKind.f64.format.order y 4503599627370496 == some .lt) = true)
    (hm : floatBits .mul .f64 x 4841369599423283200 = some r) :
    Calls Tryz.prog 279 #[.float .f64 x] w fun e w' => e = .returned (.tuple #[.float .f64 r, .int .i64 (-52)]) ∧ w' = w := by
  have H : Hid (bits BinOp.andNot IntKind.u64 (x : Int) 9223372036854775808 = (y : Int)) := h
  have hr : ∀ w : World, (binOp .mul 30 (.float .f64 x) (.float .f64 4841369599423283200)).run Tryz.prog w = .ok (.float .f64 r) w := fun w => run_float_arith w .mul 30 .f64 _ _ r hm
  clear h hm
  go_enter Tryz.func279, Tryz.ntmps279
  go_wp2_with (go_at_call 267; refine (abs_any x y _ H.out).mono ?_; rintro e w1 ⟨rfl, rfl⟩)
  go_ret2
  exact ⟨rfl, rfl⟩

set_option maxHeartbeats 400000 in
theorem normalize_big (x y : Nat) (w : World) (h : bits BinOp.andNot IntKind.u64 (x : Int) 9223372036854775808 = (y : Int)) (hlt : (FloatKind.f64.format.order y 4503599627370496 == some .lt) = false) :
    Calls Tryz.prog 279 #[.float .f64 x] w fun e w' => e = .returned (.tuple #[.float .f64 x, .int .i64 0]) ∧ w' = w := by
  have H : Hid (bits BinOp.andNot IntKind.u64 (x : Int) 9223372036854775808 = (y : Int)) := h
  clear h
  go_enter Tryz.func279, Tryz.ntmps279
  go_wp2_with (go_at_call 267; refine (abs_any x y _ H.out).mono ?_; rintro e w1 ⟨rfl, rfl⟩)
  go_ret2
  exact ⟨rfl, rfl⟩

set_option maxHeartbeats 1000000 in
/-- frexp, behind normalize: y with its exponent field e0 (as a number), its other fields kept in z, then in z2. -/
theorem frexp_any (x ya y e0 z z2 : Nat) (k : Int) (w : World) (hk : -60 ≤ k) (hk2 : k ≤ 60) (he0 : e0 < 2048)
    (hz : (FloatKind.f64.format.order x 0 == some .eq) = false) (hn : (FloatKind.f64.format.order x x != some .eq) = false)
    (habs : bits BinOp.andNot IntKind.u64 (x : Int) 9223372036854775808 = (ya : Int)) (hin : (FloatKind.f64.format.order ya 9218868437227405311 == some .gt) = false)
    (hnorm : ∀ w : World, Calls Tryz.prog 279 #[.float .f64 x] w fun e w' => e = .returned (.tuple #[.float .f64 y, .int .i64 k]) ∧ w' = w)
    (h1 : bits BinOp.and IntKind.u64 ((y : Int) / 4503599627370496) 2047 = (e0 : Int))
    (h2 : bits BinOp.andNot IntKind.u64 (y : Int) 9218868437227405312 = (z : Int))
    (h3 : bits BinOp.or IntKind.u64 (z : Int) 4602678819172646912 = (z2 : Int)) :
    Calls Tryz.prog 273 #[.float .f64 x] w fun e w' => e = .returned (.tuple #[.float .f64 z2, .int .i64 (k + ((e0 : Int) - 1023 + 1))]) ∧ w' = w := by
  have H : Hid (bits BinOp.andNot IntKind.u64 (x : Int) 9223372036854775808 = (ya : Int)) := habs
  have HN : Hid (∀ w : World, Calls Tryz.prog 279 #[.float .f64 x] w fun e w' => e = .returned (.tuple #[.float .f64 y, .int .i64 k]) ∧ w' = w) := hnorm
  have b1 := run_bits64 y
  have b2 := run_frombits64 z2
  have HI : Hid ((FloatKind.f64.format.order ya 9218868437227405311 == some .gt) = false) := hin
  clear habs hnorm hin
  go_enter Tryz.func273, Tryz.ntmps273
  go_wp2_with (first | (go_at_call 255; refine (isInf_zero x ya _ H.out).mono ?_; rintro e w1 ⟨rfl, rfl⟩; rw [HI.out]) | (go_at_call 194; go_in) | (go_at_call 279; refine (HN.out _).mono ?_; rintro e w1 ⟨rfl, rfl⟩))
  go_ret2
  exact ⟨rfl, rfl⟩
end Go.Proofs.YtfceeijdmilieaaGreatDoor
namespace Go.Proofs.YtfceeijdmilieaaGreatDoor
open Go.RowKit
set_option linter.unusedVariables false

def hstep (h : Int) (c : UInt8) : Int := IntKind.u64.wrap (bits BinOp.xor IntKind.u64 h (IntKind.u64.wrap (c.toNat : Int)) * 1099511628211)
def fnv (l : List UInt8) : Int := l.foldl hstep 14695981039346656037
def mixI (x : Int) : Int :=
  bits BinOp.xor IntKind.u64
    (IntKind.u64.wrap (bits BinOp.xor IntKind.u64 (IntKind.u64.wrap (bits BinOp.xor IntKind.u64 x (x / 8589934592) * 18397679294719823053)) (IntKind.u64.wrap (bits BinOp.xor IntKind.u64 x (x / 8589934592) * 18397679294719823053) / 8589934592) * 14181476777654086739))
    (IntKind.u64.wrap (bits BinOp.xor IntKind.u64 (IntKind.u64.wrap (bits BinOp.xor IntKind.u64 x (x / 8589934592) * 18397679294719823053)) (IntKind.u64.wrap (bits BinOp.xor IntKind.u64 x (x / 8589934592) * 18397679294719823053) / 8589934592) * 14181476777654086739) / 8589934592)

theorem wrap_u64_range (n : Int) : 0 ≤ IntKind.u64.wrap n ∧ IntKind.u64.wrap n < 18446744073709551616 := by
  rw [IntKind.wrap_u64]; omega
theorem bits_u64_range (op : BinOp) (x y : Int) : 0 ≤ bits op IntKind.u64 x y ∧ bits op IntKind.u64 x y < 18446744073709551616 := by
  unfold bits; exact wrap_u64_range _
theorem mixI_range (x : Int) : 0 ≤ mixI x ∧ mixI x < 18446744073709551616 := bits_u64_range _ _ _
theorem hstep_range (h : Int) (c : UInt8) : 0 ≤ hstep h c ∧ hstep h c < 18446744073709551616 := wrap_u64_range _
theorem foldl_range (l : List UInt8) (h : Int) (hh : 0 ≤ h ∧ h < 18446744073709551616) : 0 ≤ l.foldl hstep h ∧ l.foldl hstep h < 18446744073709551616 := by
  induction l generalizing h with
  | nil => exact hh
  | cons c l ih => exact ih _ (hstep_range h c)
theorem fnv_range (l : List UInt8) : 0 ≤ fnv l ∧ fnv l < 18446744073709551616 := foldl_range l _ (by omega)

theorem take_snoc (s : ByteArray) (k : Nat) (h : k < s.size) : s.data.toList.take (k + 1) = s.data.toList.take k ++ [s[k]] := by
  rw [List.take_succ_eq_append_getElem (by simpa using h)]; rfl
theorem fnv_snoc (s : ByteArray) (k : Nat) (h : k < s.size) : fnv (s.data.toList.take (k + 1)) = hstep (fnv (s.data.toList.take k)) s[k] := by
  rw [take_snoc s k h]; unfold fnv; rw [List.foldl_append]; rfl
theorem ret_int {k : IntKind} {a b : Int} (h : a = b) : Ending.returned (.int k a) = .returned (.int k b) := by rw [h]

set_option maxHeartbeats 400000 in
theorem mix_any (x : Int) (w : World) (h0 : 0 ≤ x) (h1 : x < 18446744073709551616) :
    Calls Tryz.prog 243 #[.int .u64 x] w fun e w' => e = .returned (.int .u64 (mixI x)) ∧ w' = w := by
  go_enter Tryz.func243, Tryz.ntmps243
  go_wp2
  go_ret
  exact ⟨rfl, rfl⟩

set_option maxHeartbeats 400000 in
theorem l1mix_any (x : Int) (w : World) (h0 : 0 ≤ x) (h1 : x < 18446744073709551616) :
    Calls Tryz.prog 252 #[.int .u64 x] w fun e w' => e = .returned (.int .u64 (mixI x)) ∧ w' = w := by
  go_enter Tryz.func252, Tryz.ntmps252
  go_wp2
  go_ret
  exact ⟨rfl, rfl⟩

set_option maxHeartbeats 400000 in
theorem hashText_any (s : ByteArray) (w : World) (hs : s.size ≤ maxLen) :
    Calls Tryz.prog 241 #[.string s] w fun e w' => e = .returned (.int .u64 (fnv s.data.toList)) ∧ w' = w := by
  unfold maxLen at hs
  go_enter Tryz.func241, Tryz.ntmps241
  go_wp2
  go_loop [3, 7] (fun h i => ∃ k : Nat, k ≤ s.size ∧ i = .int .i64 k ∧ h = .int .u64 (fnv (s.data.toList.take k))) (fun _ i => s.size - (intOf i).toNat)
  case atStart => exact ⟨0, Nat.zero_le _, rfl, rfl⟩
  case round =>
    obtain ⟨k, hk, rfl, rfl⟩ := hrel
    by_cases hlt : k < s.size
    · have HS : Hid (fnv (s.data.toList.take (k + 1)) = hstep (fnv (s.data.toList.take k)) s[k]) := fnv_snoc s k hlt
      go_wp2
      exact ⟨⟨k + 1, by omega, by go_num, by rw [HS.out]; rfl⟩, by simp [intOf]; omega⟩
    · go_wp2
      go_ret
      exact ⟨ret_int (by rw [List.take_of_length_le (by simp; omega)]), rfl⟩

set_option maxHeartbeats 400000 in
theorem l1bytes_any (s : ByteArray) (w : World) (hs : s.size ≤ maxLen) :
    Calls Tryz.prog 250 #[.string s] w fun e w' => e = .returned (.int .u64 (fnv s.data.toList)) ∧ w' = w := by
  unfold maxLen at hs
  go_enter Tryz.func250, Tryz.ntmps250
  go_wp2
  go_loop [3, 4] (fun h i => ∃ k : Nat, k ≤ s.size ∧ i = .int .i64 k ∧ h = .int .u64 (fnv (s.data.toList.take k))) (fun _ i => s.size - (intOf i).toNat)
  case atStart => exact ⟨0, Nat.zero_le _, rfl, rfl⟩
  case round =>
    obtain ⟨k, hk, rfl, rfl⟩ := hrel
    by_cases hlt : k < s.size
    · have HS : Hid (fnv (s.data.toList.take (k + 1)) = hstep (fnv (s.data.toList.take k)) s[k]) := fnv_snoc s k hlt
      go_wp2
      exact ⟨⟨k + 1, by omega, by go_num, by rw [HS.out]; rfl⟩, by simp [intOf]; omega⟩
    · go_wp2
      go_ret
      exact ⟨ret_int (by rw [List.take_of_length_le (by simp; omega)]), rfl⟩
end Go.Proofs.YtfceeijdmilieaaGreatDoor
namespace Go.Proofs.YtfceeijdmilieaaGreatDoor
open Go.RowKit
set_option linter.unusedVariables false

/-- The two tables of the library lie as their initialisers lay them. -/
structure Tabs (w : World) : Prop where
  t64 : TabAt 2 Lib.deBruijn64tab w
  p10 : Lib.TabIs Tryz.prog w "internal/strconv.uint64pow10" .u64 Lib.pow10Tab
  sz : 5 ≤ w.heap.size

theorem Tabs.below {w w' : World} (h : Tabs w) {B : Nat} (hb : Below B w w') (hB : 5 ≤ B) : Tabs w' :=
  ⟨fun j hj => (hb.cell (p := ⟨2, j, none⟩) (show 2 < B from by omega)).trans (h.t64 j hj),
   var?_below hb (show Tryz.prog.globalNamed "internal/strconv.uint64pow10" = some 3 from by kernel_rfl) (by omega) h.p10,
   Nat.le_trans h.sz hb.size⟩

set_option maxHeartbeats 1000000 in
theorem tz64_core' (x k idx : Nat) (w : World) (hx0 : ((x : Int) == 0) = false)
    (key : IntKind.u64.wrap (bits BinOp.and IntKind.u64 (x : Int) (IntKind.u64.wrap (-(x : Int))) * 285870213051353865) / 288230376151711744 = (idx : Int))
    (hi : idx < 64) (hk : k < 64) (hcell : w.cell? ⟨2, idx, none⟩ = some (.int .u8 k)) :
    Calls Tryz.prog 257 #[.int .u64 x] w fun e w' => e = .returned (.int .i64 k) ∧ w' = w := by
  go_enter Tryz.func257, Tryz.ntmps257
  go_wp2_with (simp only [key])
  go_ret
  exact ⟨rfl, rfl⟩

theorem tz64_any (x : Nat) (hx : x < 18446744073709551616) (hx0 : x ≠ 0) (w : World) (hT : Tabs w) :
    Calls Tryz.prog 257 #[.int .u64 x] w fun e w' => e = .returned (.int .i64 (Lib.ctz 64 x)) ∧ w' = w := by
  obtain ⟨hlow, hk⟩ := Lib.lowest_bit 64 x hx0 hx
  obtain ⟨hi, htab⟩ := Lib.deBruijn64_at _ hk
  have hcell := hT.t64 _ hi
  rw [htab] at hcell
  exact tz64_core' x _ _ w (by simp; omega) (tz64_key x _ hx hx0 hlow) hi hk hcell

/-- Frexp at a finite float that is not zero. -/
theorem frexp_is {x : Nat} {s : Bool} {m : Nat} {i : Int} {ya y e0 z z2 : Nat} {k : Int} {j : Nat} (hr : Ieee.double.read x = .number s m i) (hi : -1074 ≤ i) (hm : m ≠ 0) (F : Fl.Fr x s m i ya y e0 z z2 k j) (w : World) :
    Calls Tryz.prog 273 #[.float .f64 x] w fun e w' => e = .returned (.tuple #[.float .f64 z2, .int .i64 (k + ((e0 : Int) - 1023 + 1))]) ∧ w' = w := by
  have hz : (FloatKind.f64.format.order x 0 == some .eq) = false := by
    show (Ieee.double.order x 0 == some .eq) = false
    rw [Fl.ord_of hr Fl.read_nil hi (by omega), Fl.cmp_eq, Fl.sc_zero]
    have hp := Fl.pow_pos' (i + 1074).toNat
    simp only [decide_eq_false_iff_not]
    unfold Fl.sc
    rw [Fl.signed_eq]
    generalize (2 : Int) ^ (i + 1074).toNat = u at hp
    intro h
    have h1 : (m : Int) * u = 0 := by cases s <;> simpa using h
    rcases Int.mul_eq_zero.1 h1 with h | h <;> omega
  have hn : (FloatKind.f64.format.order x x != some .eq) = false := by
    show (!(Ieee.double.order x x == some .eq)) = false
    rw [Fl.ord_of hr hr hi hi, Fl.cmp_eq]; simp
  refine frexp_any x ya y e0 z z2 k w F.hk F.hk2 F.he0 hz hn F.habs F.hin ?_ F.h1 F.h2 F.h3
  intro w
  rcases F.hnorm with ⟨h1, h2, h3⟩ | ⟨h1, h2, h3⟩
  · rw [h1, h2]; exact normalize_big x ya w F.habs h3
  · rw [h1]; exact normalize_small x ya y w F.habs h3 h2

set_option maxHeartbeats 400000 in
theorem frexp_pub {x : Nat} {s : Bool} {m : Nat} {i : Int} {ya y e0 z z2 : Nat} {k : Int} {j : Nat} (hr : Ieee.double.read x = .number s m i) (hi : -1074 ≤ i) (hm : m ≠ 0) (F : Fl.Fr x s m i ya y e0 z z2 k j) (w : World) :
    Calls Tryz.prog 256 #[.float .f64 x] w fun e w' => e = .returned (.tuple #[.float .f64 z2, .int .i64 (k + ((e0 : Int) - 1023 + 1))]) ∧ w' = w := by
  have H : Hid (∀ w : World, Calls Tryz.prog 273 #[.float .f64 x] w fun e w' => e = .returned (.tuple #[.float .f64 z2, .int .i64 (k + ((e0 : Int) - 1023 + 1))]) ∧ w' = w) := fun w => frexp_is hr hi hm F w
  clear F hr hm hi
  go_enter Tryz.func256, Tryz.ntmps256
  go_wp2_with (go_at_call 273; refine (H.out _).mono ?_; rintro e w1 ⟨rfl, rfl⟩)
  go_ret2
  exact ⟨rfl, rfl⟩
end Go.Proofs.YtfceeijdmilieaaGreatDoor
namespace Go.Proofs.YtfceeijdmilieaaGreatDoor
open Go.RowKit
set_option linter.unusedVariables false

theorem ba_append (a b : List UInt8) : (⟨a.toArray⟩ ++ ⟨b.toArray⟩ : ByteArray) = ⟨(a ++ b).toArray⟩ := by
  apply ByteArray.ext
  simp
theorem ret_str {a b : ByteArray} (h : a = b) : Ending.returned (.string a) = .returned (.string b) := by rw [h]

theorem digits_small {u : Nat} (h : u < 10) : Lib.decDigits u = [UInt8.ofNat (48 + u)] := by rw [Lib.decDigits, dif_pos h]
theorem digits_big {u : Nat} (h : ¬ u < 10) : Lib.decDigits u = Lib.decDigits (u / 10) ++ [UInt8.ofNat (48 + u % 10)] := by rw [Lib.decDigits, dif_neg h]
theorem digits_len (u : Nat) (h : u < 9223372036854775808) : (Lib.decDigits u).length ≤ 21 := by
  have := Lib.itoa_length_le (u : Int) (by omega) (by omega)
  rw [Lib.itoa, if_neg (by omega)] at this
  simpa using this

/-- The last digit's letter. -/
def dig (u : Nat) : UInt8 := UInt8.ofNat (48 + u % 10)
theorem conv_digit (u : Nat) (wr : World) : (convert 22 9 (.slice (some ⟨wr.heap.size, 0, none⟩) 1 1)).run Tryz.prog (wr.alloc (.cells #[.int .u8 (48 + (u : Int) % 10)] 5)) = .ok (.string ⟨[dig u].toArray⟩) (wr.alloc (.cells #[.int .u8 (48 + (u : Int) % 10)] 5)) :=
  run_convert_bytes_back (P := Tryz.prog) (wr.alloc (.cells #[.int .u8 (48 + (u : Int) % 10)] 5)) 22 9 5 ⟨wr.heap.size, 0, none⟩ 1 [dig u] Tryz.underlying22 Tryz.underlying5 Tryz.underlying9 (by
    intro j hj
    have : j = 0 := by simpa using hj
    subst this
    have e : (dig u).toNat = 48 + u % 10 := by
      unfold dig; rw [UInt8.toNat_ofNat']; omega
    simp [Addr.add, go_sem, e])

end Go.Proofs.YtfceeijdmilieaaGreatDoor
namespace Go.Proofs.YtfceeijdmilieaaGreatDoor
open Go.RowKit
set_option linter.unusedVariables false

/-- The text of the number M times 2 to the E, with its sign. -/
def ftext (s : Bool) (M : Nat) (E : Int) : List UInt8 := Lib.itoa (Fl.sg s M) ++ [112] ++ Lib.itoa E

set_option maxHeartbeats 1000000 in
theorem ftext_core (x z2 r u t : Nat) (ex a b : Int) (w : World) (hT : Tabs w)
    (h1 : (FloatKind.f64.format.order x 9218868437227405311 == some .gt) = false) (h2 : (FloatKind.f64.format.order (Op.negFloat .f64 x) 9218868437227405311 == some .gt) = false)
    (hF : ∀ w : World, Calls Tryz.prog 256 #[.float .f64 x] w fun e w' => e = .returned (.tuple #[.float .f64 z2, .int .i64 ex]) ∧ w' = w)
    (hm : floatBits .mul .f64 z2 4845873199050653696 = some r) (hc : floatToIntVal .f64 r .i64 = some a)
    (hu : IntKind.u64.wrap a = (u : Int)) (hu0 : u ≠ 0) (hu1 : u < 18446744073709551616) (ht : Lib.ctz 64 u = t) (ht1 : t < 53) (hb : a / 2 ^ t = b)
    (hb1 : -9007199254740992 < b) (hb2 : b < 9007199254740992) (he1 : -1200 < ex) (he2 : ex < 1200) :
    Calls Tryz.prog 242 #[.float .f64 x] w fun e w' => e = .returned (.string ⟨(Lib.itoa b ++ [112] ++ Lib.itoa (ex - 53 + t)).toArray⟩) ∧ Below w.heap.size w w' := by
  have HF : Hid (∀ w : World, Calls Tryz.prog 256 #[.float .f64 x] w fun e w' => e = .returned (.tuple #[.float .f64 z2, .int .i64 ex]) ∧ w' = w) := hF
  have hr : ∀ w : World, (binOp .mul 30 (.float .f64 z2) (.float .f64 4845873199050653696)).run Tryz.prog w = .ok (.float .f64 r) w := fun w => run_float_arith w .mul 30 .f64 _ _ r hm
  have hcv : ∀ w : World, (convert 30 2 (.float .f64 r)).run Tryz.prog w = .ok (.int .i64 a) w := fun w => run_convert_float_int w 30 2 .f64 .i64 r _ (by kernel_rfl) Tryz.underlying2 hc
  have HT : Hid (Lib.ctz 64 u = t) := ht
  have H2 : Hid ((FloatKind.f64.format.order (Op.negFloat .f64 x) 9218868437227405311 == some .gt) = false) := h2
  have H1 : Hid ((FloatKind.f64.format.order x 9218868437227405311 == some .gt) = false) := h1
  clear hF hm hc ht h2 h1
  go_enter Tryz.func242, Tryz.ntmps242
  go_wp2_with fail
  refine (isInf_pos x _).mono ?_
  rintro e w1 ⟨rfl, rfl⟩
  rw [H1.out]
  go_wp2_with fail
  refine (isInf_neg x _).mono ?_
  rintro e w1 ⟨rfl, rfl⟩
  rw [H2.out]
  go_wp2_with fail
  refine (HF.out _).mono ?_
  rintro e w1 ⟨rfl, rfl⟩
  go_wp2_with fail
  refine (tz64_any u hu1 hu0 _ hT).mono ?_
  rintro e w1 ⟨rfl, rfl⟩
  rw [HT.out]
  go_wp2_with fail
  refine (Tryz.strconv_FormatInt_10 b (by omega) (by omega) _ hT.p10).mono ?_
  rintro e w2 ⟨rfl, kk, os, hw2⟩
  have hb2' : Below w1.heap.size w1 w2 := by rw [hw2]; exact Lib.below_grow _ _ (Nat.le_refl _) _ _
  clear hw2
  have hT2 := hT.below hb2' hT.sz
  have hl1 := Lib.itoa_length_le b (by omega) (by omega)
  have hl2 := Lib.itoa_length_le (ex - 53 + t) (by omega) (by omega)
  go_wp2_with fail
  refine (Tryz.strconv_Itoa (ex - 53 + t) (by omega) (by omega) _ hT2.p10).mono ?_
  rintro e w3 ⟨rfl, k3, os3, hw3⟩
  have hb3' : Below w2.heap.size w2 w3 := by rw [hw3]; exact Lib.below_grow _ _ (Nat.le_refl _) _ _
  clear hw3
  go_wp2_with fail
  go_ret
  exact ⟨ret_str (by rw [ba_append, ba_append]), hb2'.trans (hb3'.mono hb2'.size)⟩

/-- m * 2^i is (2 M + 1) * 2^E. -/
def OddF (m : Nat) (i : Int) (M : Nat) (E : Int) : Prop := ∃ a b : Nat, m * 2 ^ a = (2 * M + 1) * 2 ^ b ∧ E = i + b - a

theorem oddF_unique {m : Nat} {i : Int} {M M' : Nat} {E E' : Int} (h : OddF m i M E) (h' : OddF m i M' E') : M = M' ∧ E = E' := by
  obtain ⟨a, b, e1, rfl⟩ := h
  obtain ⟨a', b', e2, rfl⟩ := h'
  have e : 2 ^ (b + a') * (2 * M + 1) = 2 ^ (b' + a) * (2 * M' + 1) := by
    rw [Nat.pow_add, Nat.pow_add, Nat.mul_comm (2 ^ b), Nat.mul_assoc, Nat.mul_comm (2 ^ b), ← e1, Nat.mul_comm (2 ^ b'), Nat.mul_assoc, Nat.mul_comm (2 ^ b'), ← e2]
    rw [Nat.mul_left_comm, Nat.mul_left_comm (2 ^ a), Nat.mul_comm (2 ^ a')]
  obtain ⟨h1, h2⟩ := Fl.odd_unique _ _ _ _ e
  exact ⟨h2, by omega⟩

theorem shift53 (N c d : Nat) (h : d = 52 + c) : N * 4503599627370496 * 2 ^ c = N * 2 ^ d := by
  rw [h, Nat.pow_add, Fl.c52, Nat.mul_assoc]

theorem floatText_num (x : Nat) (hx : x < 18446744073709551616) (s : Bool) (m : Nat) (i : Int) (hr : Ieee.double.read x = .number s m i) (hi : -1074 ≤ i) (hi2 : i ≤ 971) (hm : m < 2 ^ 53) (hm0 : m ≠ 0) :
    ∃ M E, OddF m i M E ∧ ∀ w : World, Tabs w → Calls Tryz.prog 242 #[.float .f64 x] w fun e w' => e = .returned (.string ⟨(ftext s (2 * M + 1) E).toArray⟩) ∧ Below w.heap.size w w' := by
  obtain ⟨ya, y, e0, z, z2, k, j, F⟩ := Fl.frexp_facts x hx s m i hr hm0
  have hN0 : 0 < m * 2 ^ j := by have := F.lo; omega
  obtain ⟨M, hM, ht⟩ := Fl.ctz_spec s (m * 2 ^ j) hN0 F.hi
  -- the product by 2^53
  obtain ⟨r, q, l, hmul, hrd, hl1, hl2, hv⟩ := Fl.mul_exact F.rd Fl.read_p53 (by have := F.lo; omega) (by omega) (m * 2 ^ j) 0 F.hi (by omega) (by omega) (shift53 (m * 2 ^ j) _ _ (by decide))
  rw [Bool.xor_false] at hrd
  have hw := Fl.whole_of q l (m * 2 ^ j) hl1 hv
  have hu := Fl.U_pos
  have hsc : Fl.sc s q l = Fl.sg s (m * 2 ^ j) * Fl.U := by rw [Fl.sc_of s q l (m * 2 ^ j) 0 hv, Fl.sc_whole]
  have hcv : floatToIntVal .f64 r .i64 = some (Fl.sg s (m * 2 ^ j)) := by
    have h := Fl.toIntVal hrd hl1 (by
      rw [hsc]
      have : -9223372036854775808 ≤ Fl.sg s (m * 2 ^ j) := by have := F.hi; cases s <;> simp only [Fl.sg, Bool.false_eq_true, if_false, if_true] <;> omega
      have := Int.mul_le_mul_of_nonneg_right this (Int.le_of_lt hu)
      omega) (by
      rw [hsc]
      have : Fl.sg s (m * 2 ^ j) < 9223372036854775808 := by have := F.hi; cases s <;> simp only [Fl.sg, Bool.false_eq_true, if_false, if_true] <;> omega
      exact Int.mul_lt_mul_of_pos_right this hu)
    rw [hw] at h; exact h
  have hNs' := F.hi
  generalize hN : m * 2 ^ j = N at *
  generalize htt : Lib.ctz 64 (Fl.uw s N) = t at *
  have hNs : N < 9007199254740992 := hNs'
  have hMb : 2 * M + 1 < 9007199254740992 := by
    have : 1 * (2 * M + 1) ≤ 2 ^ t * (2 * M + 1) := Nat.mul_le_mul_right _ (Nat.two_pow_pos t)
    omega
  refine ⟨M, i - j + t, ⟨j, t, by rw [hN, hM, Nat.mul_comm], by omega⟩, fun w hT => ?_⟩
  have hex := F.ex
  have he1 : k + ((e0 : Int) - 1023 + 1) - 53 + t = i - j + t := by omega
  have c := ftext_core x z2 r (Fl.uw s N) t (k + ((e0 : Int) - 1023 + 1)) (Fl.sg s N) (Fl.sg s (2 * M + 1)) w hT
    (Fl.not_above hr hi hi2 hm)
    (Fl.not_above (x := Op.negFloat .f64 x) (s := !s) (m := m) (i := i) (by rw [Fl.read_neg x hx, hr]; rfl) hi hi2 hm)
    (fun w => frexp_pub hr hi hm0 F w) hmul hcv (Fl.uw_wrap s N hN0 hNs')
    (by unfold Fl.uw; split <;> omega) (by unfold Fl.uw; split <;> omega) htt (by omega)
    (by rw [hM]; exact Fl.sg_shift s t M)
    (by cases s <;> simp only [Fl.sg, Bool.false_eq_true, if_false, if_true] <;> omega)
    (by cases s <;> simp only [Fl.sg, Bool.false_eq_true, if_false, if_true] <;> omega)
    (by have := F.hk; have := F.he0; omega) (by have := F.hk2; have := F.he0; omega)
  rw [he1] at c
  exact c

end Go.Proofs.YtfceeijdmilieaaGreatDoor
namespace Go.Proofs.YtfceeijdmilieaaGreatDoor
open Go.RowKit
set_option linter.unusedVariables false

set_option maxRecDepth 100000 in
set_option maxHeartbeats 1000000 in
theorem decimal_pos (n : Nat) (hn : n < 9007199254740992) (w : World) :
    Calls Tryz.prog 271 #[.int .i64 (n : Int)] w fun e w' => e = .returned (.string ⟨(Lib.decDigits n).toArray⟩) ∧ Below w.heap.size w w' := by
  have hl := digits_len n (by omega)
  have g2 : (0 : Int) ≤ (n : Int) := by omega
  go_enter Tryz.func271, Tryz.ntmps271
  go_wp2
  go_loopw [0, 3] (fun a o wr => ∃ (u : Nat) (l : List UInt8), u ≤ n ∧ a = .int .i64 (u : Int) ∧ o = .string ⟨l.toArray⟩ ∧ Lib.decDigits n = Lib.decDigits u ++ l ∧ Below w.heap.size w wr) (fun a _ _ => (intOf a).toNat)
  case atStart => exact ⟨n, [], Nat.le_refl _, rfl, rfl, by simp, Below.refl _ _⟩
  case round =>
    obtain ⟨u, l, hu, rfl, rfl, hd, hb⟩ := hrel
    have HD : Hid (Lib.decDigits n = Lib.decDigits u ++ l) := hd
    have hll : l.length ≤ 21 := by have := congrArg List.length hd; rw [List.length_append] at this; omega
    clear hd
    have hcv := conv_digit u wr
    by_cases h10 : u < 10
    · have hz : ((u : Int) / 10 == 0) = true := by simp; omega
      go_wp2
      go_ret
      refine ⟨ret_str ?_, hb.alloc hb.size _⟩
      rw [ba_append, HD.out, digits_small h10]
      have : dig u = UInt8.ofNat (48 + u) := by unfold dig; rw [Nat.mod_eq_of_lt h10]
      rw [this]
    · have hz : ((u : Int) / 10 == 0) = false := by simp; omega
      go_wp2
      go_roundw
      case rel =>
        refine ⟨u / 10, dig u :: l, by omega, by go_num, ?_, ?_, hb.alloc hb.size _⟩
        · rw [ba_append]; rfl
        · rw [HD.out, digits_big h10, List.append_assoc]; rfl
      case measure => simp [intOf]; omega
end Go.Proofs.YtfceeijdmilieaaGreatDoor
