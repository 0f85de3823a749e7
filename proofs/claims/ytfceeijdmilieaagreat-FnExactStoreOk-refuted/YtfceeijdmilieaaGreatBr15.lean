/-
  DpA, Mark.
-/
import Derived.Test.YtfceeijdmilieaaGreatDkNP
import Derived.Test.YtfceeijdmilieaaGreatBr3
namespace Go.Proofs.YtfceeijdmilieaaGreat
open Go.RowKit
set_option linter.unusedVariables false
attribute [local go_sem] run_store_float run_equalIn_float

/-- The living pairs, in their order. -/
def lvF (d : Dc) (j : Nat) : Pr := d.L ((livL d d.n).getD j 0)
/-- How many live. -/
def lvN (d : Dc) : Nat := (livL d d.n).length
theorem lvF_at {d : Dc} {k : Nat} (hk : k < d.n) (h : (d.L k).turn ≠ 0) : lvF d (livL d k).length = d.L k := by
  unfold lvF
  obtain ⟨r, hr⟩ := livL_prefix (d := d) (k := k + 1) (n := d.n) (by omega)
  rw [livL_live h] at hr
  rw [← hr]
  simp [List.getD]
theorem lvN_le (d : Dc) : lvN d ≤ d.n := livL_le d d.n

open Classical in
/-- What is told of the pairs: none when the dict is not sound. -/
noncomputable def prsN (d : Dc) : Nat := if dictOk d (hD d) = 0 then lvN d else 0
theorem prsN_le (d : Dc) : prsN d ≤ d.n := by
  unfold prsN
  split
  · exact lvN_le d
  · omega

theorem news_after (wr : World) (o1 : Obj) (cs : List Value) (t : TypeId) : ∀ j u, cs[j]? = some u → ((wr.alloc o1).alloc (.cells cs.toArray t)).cell? ((⟨wr.heap.size + 1, 0, none⟩ : Addr).add j) = some u := by
  have hb := Deep.blk_alloc_new (wr.alloc o1) (.cells cs.toArray t)
  have hz : (wr.alloc o1).heap.size = wr.heap.size + 1 := by simp
  rw [hz] at hb
  exact World.news_of_block hb

end Go.Proofs.YtfceeijdmilieaaGreat
namespace Go.Proofs.YtfceeijdmilieaaGreat
open Go.RowKit
set_option linter.unusedVariables false

/-- The mark of k. -/
def mark (k : Nat) : ByteArray := ⟨(109 :: Lib.decDigits k).toArray⟩

def digs (u : Nat) : List UInt8 := if u = 0 then [] else Lib.decDigits u

theorem digs_step {u : Nat} (h : 0 < u) : digs u = digs (u / 10) ++ [dig u] := by
  unfold digs
  rw [if_neg (by omega)]
  by_cases h10 : u < 10
  · rw [digits_small h10, if_pos (by omega)]
    unfold dig
    rw [Nat.mod_eq_of_lt h10]; rfl
  · rw [digits_big h10, if_neg (by omega)]; rfl

end Go.Proofs.YtfceeijdmilieaaGreat
