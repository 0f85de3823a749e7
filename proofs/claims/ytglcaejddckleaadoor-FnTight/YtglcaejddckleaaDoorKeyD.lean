/-
  KeyOf of the model.
-/
import Derived.Test.YtglcaejddckleaaDoorHide
import Derived.Test.YtglcaejddckleaaDoorKeyC
import Derived.Deep.QuietTactic
import Derived.BigQuiet
namespace Go.Proofs.YtglcaejddckleaaDoor
open Go.RowKit
attribute [local go_sem] run_store_float run_equalIn_float

theorem below_set6 {B : Nat} {a w : World} (h : Below B a w) (b : Nat) (hb : B ≤ b) (v0 v1 v2 v3 v4 v5 : Value) :
    Below B a ((((((w.setCell ⟨b, 0, none⟩ v0).setCell ⟨b, 1, none⟩ v1).setCell ⟨b, 2, none⟩ v2).setCell ⟨b, 3, none⟩ v3).setCell ⟨b, 4, none⟩ v4).setCell ⟨b, 5, none⟩ v5) :=
  (((((h.setCell (p := ⟨b, 0, none⟩) hb v0).setCell (p := ⟨b, 1, none⟩) hb v1).setCell (p := ⟨b, 2, none⟩) hb v2).setCell (p := ⟨b, 3, none⟩) hb v3).setCell (p := ⟨b, 4, none⟩) hb v4).setCell (p := ⟨b, 5, none⟩) hb v5

theorem below_drewN' {B : Nat} {a w : World} (h : Below B a w) (n : Nat) : Below B a (w.drewN n) := ⟨h.os, h.tape, h.output, h.size, h.block⟩

theorem two_then {B : Nat} {w w1 : World} {o1 o2 : Obj} (hB : B ≤ w.heap.size) (hb : Below ((w.alloc o1).alloc o2).heap.size ((w.alloc o1).alloc o2) w1) : Below B w w1 :=
  (((Below.refl B w).alloc hB o1).alloc (by simp; omega) o2).trans (hb.mono (by simp; omega))

/-- What KeyOf gives. -/
def keyV (kind num : Int) (flt : Nat) (s : ByteArray) (ref : Int) : Value :=
  if validB kind num flt s ref = true then
    if kind = 0 then KV 1 0 0 0 ⟨#[]⟩ 0
    else if kind = 3 then
      if fnan flt = true then KV 1 0 0 0 ⟨#[]⟩ 0
      else if wholeB flt = true then KV 0 2 (fint flt) 0 ⟨#[]⟩ 0
      else KV 0 kind num flt s ref
    else KV 0 kind num flt s ref
  else KV 2 0 0 0 ⟨#[]⟩ 0

end Go.Proofs.YtglcaejddckleaaDoor
