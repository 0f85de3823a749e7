/-
  IdI, DtRa, IdM.
-/
import Derived.Test.YtnjgebncghdajaaGreatDoorBi2
import Derived.Test.YtnjgebncghdajaaGreatDoorBi1
import Derived.Test.YtnjgebncghdajaaGreatDoorBi3
import Derived.Deep.QuietTactic
import Derived.BigQuiet
import Derived.OrdersHeld
import Derived.Deep.RegionHeld
import Derived.Test.YtnjgebncghdajaaGreatDoorHide
namespace Go.Proofs.YtnjgebncghdajaaGreatDoor
open Go.RowKit
set_option linter.unusedVariables false
attribute [local go_sem] run_store_float run_equalIn_float

set_option maxRecDepth 100000 in
set_option maxHeartbeats 8000000 in
theorem l5get_any (c B i : Nat) (vT vS : Value) (U : Nat → Value) (D : Ds) (k : Vl) (w : World) (hD : DeskM 45 w c B vT vS U D) (hi : i < D.nt) (hG : D.Good) :
    Calls Tryz.prog 31 #[.pointer (some ⟨c, 0, none⟩), .int .i64 i, V k.kind k.num k.flt k.str k.ref] w fun e w' => e = .returned (V ((D.T i).get k).kind ((D.T i).get k).num ((D.T i).get k).flt ((D.T i).get k).str ((D.T i).get k).ref) ∧ Below w.heap.size w w' := by
  have hn := (hG.t i hi).n
  have hnt := hG.nt
  obtain ⟨W, hW⟩ : ∃ W, W = (w.alloc (.cells #[.int .i64 k.kind, .int .i64 k.num, .float .f64 k.flt, .string k.str, .int .i64 k.ref] 46)).alloc (.cells #[.int .i64 0, .int .i64 0, .float .f64 0, .string ⟨#[]⟩, .int .i64 0] 46) := ⟨_, rfl⟩
  have hb0 : Below w.heap.size w W := by rw [hW]; exact ((Below.refl _ _).alloc (Nat.le_refl _) _).alloc (by simp) _
  have hK : VBx W w.heap.size k := ⟨by rw [hW]; simp; omega, by rw [hW]; simp [go_sem], by rw [hW]; simp [go_sem], by rw [hW]; simp [go_sem], by rw [hW]; simp [go_sem], by rw [hW]; simp [go_sem]⟩
  have hR : VBx W (w.heap.size + 1) nov := ⟨by rw [hW]; simp, by rw [hW]; simp [go_sem], by rw [hW]; simp [go_sem], by rw [hW]; simp [go_sem], by rw [hW]; simp [go_sem], by rw [hW]; simp [go_sem]⟩
  have hF : ∀ q, W.frozen? ⟨w.heap.size + 1, q, none⟩ = false := fun q => by rw [hW]; simp [go_sem]
  have hM := hD.below hb0
  obtain ⟨g, cp, a, ac, rfl, hg, eU, g0, g1, hP⟩ := hM.look hi
  obtain ⟨c0, _⟩ := hM.cells
  have hl := hM.lt
  have HP := hide hP
  have HB := hide hb0
  have HR := hide hR
  have HF := hide hF
  have HM := hide hM
  have HU := hide eU
  obtain ⟨kl, k0, k1, k2, k3, k4⟩ := hK
  clear hM hb0 hR hF hP eU hD hG
  go_enter Tryz.func31, Tryz.ntmps31
  go_wp2_with fail
  rw [← hW]
  clear hW
  refine wp_region_quiet (C := fun w' => Below W.heap.size W w') (by kernel_rfl) (by kernel_rfl) ((Below.refl _ _).drew) ?_
  show wpQuiet _ _ _ _ [_, _, _, _, _, _, _, _, _, _] _
  refine wpQuiet_step (fun K hK => ?_)
  go_simp
  refine ⟨_, fun w' hw' => rfl, hK _ ?_⟩
  clear hK K
  refine wpQuiet_step (fun K hK => ?_)
  go_simp
  refine ⟨_, fun w' hw' => rfl, hK _ ?_⟩
  clear hK K
  refine wpQuiet_step (fun K hK => ?_)
  go_simp
  refine ⟨_, fun w' hw' => rfl, hK _ ?_⟩
  clear hK K
  refine wpQuiet_step (fun K hK => ?_)
  go_simp
  apply Exists.intro
  refine And.intro (fun w' hw' => ?_) (hK _ ?_)
  · obtain ⟨hc', hf'⟩ := bcell hw'
    go_simp
    first | rfl | exact ⟨rfl, rfl⟩ | exact ⟨rfl⟩
  clear hK K
  refine wpQuiet_step (fun K hK => ?_)
  go_simp
  refine ⟨_, fun w' hw' => rfl, hK _ ?_⟩
  clear hK K
  refine wpQuiet_step (fun K hK => ?_)
  go_simp
  refine ⟨_, fun w' hw' => rfl, hK _ ?_⟩
  clear hK K
  refine wpQuiet_step (fun K hK => ?_)
  go_simp
  apply Exists.intro
  refine And.intro (fun w' hw' => ?_) (hK _ ?_)
  · obtain ⟨hc', hf'⟩ := bcell hw'
    go_simp
    first | rfl | exact ⟨rfl, rfl⟩ | exact ⟨rfl⟩
  clear hK K
  refine wpQuiet_step (fun K hK => ?_)
  go_simp
  apply Exists.intro
  refine And.intro (fun w' hw' => ?_) (hK _ ?_)
  · obtain ⟨hc', hf'⟩ := bcell hw'
    go_simp
    first | rfl | exact ⟨rfl, rfl⟩ | exact ⟨rfl⟩
  clear hK K
  refine wpQuiet_step (fun K hK => ?_)
  go_simp
  apply Exists.intro
  refine And.intro (fun w' hw' => ?_) (hK _ ?_)
  · refine (l5at_any a ac (D.T i) k _ ((unhide HP).below hw' rfl) hn).mono ?_
    rintro e w'' ⟨rfl, hb⟩
    exact ⟨rfl, hw'.trans (hb.mono hw'.size)⟩
  clear hK K
  refine wpQuiet_step (fun K hK => ?_)
  go_simp
  refine ⟨_, fun w' hw' => rfl, hK _ ?_⟩
  clear hK K
  refine wpQuiet_nil ?_
  intro w1 hb1
  obtain ⟨rl, r0, r1, r2, r3, r4⟩ := (unhide HR).below hb1 (unhide HR).lt
  have f0 := (hb1.frozen (p := ⟨w.heap.size + 1, 0, none⟩) (unhide HR).lt).trans (unhide HF 0)
  have f1 := (hb1.frozen (p := ⟨w.heap.size + 1, 1, none⟩) (unhide HR).lt).trans (unhide HF 1)
  have f2 := (hb1.frozen (p := ⟨w.heap.size + 1, 2, none⟩) (unhide HR).lt).trans (unhide HF 2)
  have f3 := (hb1.frozen (p := ⟨w.heap.size + 1, 3, none⟩) (unhide HR).lt).trans (unhide HF 3)
  have f4 := (hb1.frozen (p := ⟨w.heap.size + 1, 4, none⟩) (unhide HR).lt).trans (unhide HF 4)
  have c0 := (hb1.cell (p := ⟨c, 0, none⟩) hl).trans c0
  have g0 := (hb1.cell (p := ⟨g, i * 2, none⟩) hg).trans g0
  have HP1 := hide ((unhide HP).below hb1 rfl)
  have hl1 : c < w1.heap.size := Nat.lt_of_lt_of_le hl hb1.size
  have hg1 : g < w1.heap.size := Nat.lt_of_lt_of_le hg hb1.size
  have HB1 := hide ((unhide HB).trans (hb1.mono (unhide HB).size))
  clear hb1 k0 k1 k2 k3 k4 kl HP
  rcases (D.T i).at_rng k with e | ⟨j, e, hj⟩
  · have HG : Hid ((D.T i).get k = nov) := hide (by unfold Pl.get; rw [e, if_pos (by omega)])
    rw [e]
    go_wp2_with fail
    exact bodyPost_ret (v := V 0 0 0 ⟨#[]⟩ 0) (by simp [results, Tryz.results31, go_sem, r0, r1, r2, r3, r4]) rfl ⟨by rw [unhide HG], below_set5 (unhide HB1) _ (by omega) _ _ _ _ _⟩
  · have HG : Hid ((D.T i).get k = ((D.T i).P j).val) := hide (by unfold Pl.get; rw [e, if_neg (by omega), Int.toNat_natCast])
    rw [e]
    obtain ⟨b, off, rfl, hbl, hcs⟩ := (unhide HP1).resolve_left (by omega)
    obtain ⟨e0, e1, e2, e3, e4, e5, e6, e7, e8, e9, e10⟩ := hcs j hj
    clear hcs
    go_wp2_with fail
    exact bodyPost_ret (v := V ((D.T i).P j).val.kind ((D.T i).P j).val.num ((D.T i).P j).val.flt ((D.T i).P j).val.str ((D.T i).P j).val.ref) (by simp [results, Tryz.results31, go_sem, r0, r1, r2, r3, r4]) rfl ⟨by rw [unhide HG], below_set5 (unhide HB1) _ (by omega) _ _ _ _ _⟩
end Go.Proofs.YtnjgebncghdajaaGreatDoor
namespace Go.Proofs.YtnjgebncghdajaaGreatDoor
open Go.RowKit
set_option linter.unusedVariables false

/-- What holds at the end that is plain; no other end is borne. -/
def QN (Q : Exit → Act → World → Prop) : Exit → Act → World → Prop
  | .normal, a, w => Q .normal a w
  | _, _, _ => False
theorem QN.no {Q : Exit → Act → World → Prop} : ¬ LetsOut (QN Q) := fun ⟨a, w, h⟩ => h

theorem QN.normal {Q : Exit → Act → World → Prop} {a : Act} {w : World} (h : Q .normal a w) : QN Q .normal a w := h

section
variable {P : Program} {ops : Array Oper} {md : Region.Mode}
/-- One operation taken first. -/
theorem tk {Q : Exit → Act → World → Prop} {S : World → Prop} {l rest : List Oper} (i : Nat) {oi : Oper} {v : Value} {fuel : Nat} {listed : Array Bool} {a : Act} {w : World} (hd : l.drop i = oi :: rest) (hc : (Region.noSelect l.toArray && Region.free md l.toArray listed i && (Region.ready md l.toArray listed).contains i) = true)
    (hw : Region.wanted oi (yielded l.toArray a.tmps) = true) (hy : ∀ w, S w → (execOp a.eval oi).run P w = .ok (.value v) w) (hS : S w) (h : wpAnyH P md l.toArray (QN Q) S fuel (listed.setIfInBounds i true) (a.put oi.dst v) w) : wpAnyH P md l.toArray (QN Q) S (fuel + 1) listed a w := by
  simp only [Bool.and_eq_true] at hc
  have hi : l.toArray[i]? = some oi := by
    have h1 : (l.drop i)[0]? = some oi := by rw [hd]; rfl
    rw [List.getElem?_drop] at h1
    simpa using h1
  exact wpAnyH_take hi hc.1.1 hc.1.2 hc.2 (fun _ _ _ h => h) (Or.inl ⟨hw, hy⟩) hS h
theorem QN.imp {Q : Exit → Act → World → Prop} : ∀ (e : Exit) (a : Act) (w : World), QN Q e a w → Q e a w := fun e a w h => by
  cases e <;> first | exact h | exact False.elim h
theorem wpN_held {id : Nat} {Q : Exit → Act → World → Prop} {a : Act} {w : World} (S : World → Prop) (hm : P.follows .mixedOrders = true) (h : wpAnyH P .any ops (QN Q) S ops.size (Array.replicate ops.size false) a { w with drawn := w.drawn + 1 }) : (Code.region id ops true).wp P Q a w :=
  Code.wp_mono QN.imp (wp_region_held hm h)
end
end Go.Proofs.YtnjgebncghdajaaGreatDoor
namespace Go.Proofs.YtnjgebncghdajaaGreatDoor
open Go.RowKit
set_option linter.unusedVariables false

def HeldA (c pb kb vb : Nat) (vT : Value) (a : Option Addr) (n ac : Nat) (tr : Int) (k v : Vl) (W : World) : Prop :=
  W.cell? ⟨c, 0, none⟩ = some vT ∧ W.cell? ⟨pb, 0, none⟩ = some (.slice a n ac) ∧ W.cell? ⟨pb, 1, none⟩ = some (.int .i64 tr) ∧
  W.cell? ⟨kb, 0, none⟩ = some (.int .i64 k.kind) ∧ W.cell? ⟨kb, 1, none⟩ = some (.int .i64 k.num) ∧ W.cell? ⟨kb, 2, none⟩ = some (.float .f64 k.flt) ∧ W.cell? ⟨kb, 3, none⟩ = some (.string k.str) ∧ W.cell? ⟨kb, 4, none⟩ = some (.int .i64 k.ref) ∧
  W.cell? ⟨vb, 0, none⟩ = some (.int .i64 v.kind) ∧ W.cell? ⟨vb, 1, none⟩ = some (.int .i64 v.num) ∧ W.cell? ⟨vb, 2, none⟩ = some (.float .f64 v.flt) ∧ W.cell? ⟨vb, 3, none⟩ = some (.string v.str) ∧ W.cell? ⟨vb, 4, none⟩ = some (.int .i64 v.ref)
theorem HeldA.keep {c pb kb vb : Nat} {vT : Value} {a : Option Addr} {n ac : Nat} {tr : Int} {k v : Vl} {w w' : World} (h : HeldA c pb kb vb vT a n ac tr k v w) (hc : w'.heap[c]? = w.heap[c]?) (hp : w'.heap[pb]? = w.heap[pb]?) (hk : w'.heap[kb]? = w.heap[kb]?) (hv : w'.heap[vb]? = w.heap[vb]?) : HeldA c pb kb vb vT a n ac tr k v w' := by
  obtain ⟨h0, h1, h2, k0, k1, k2, k3, k4, v0, v1, v2, v3, v4⟩ := h
  exact ⟨(World.cell?_of_block (a := ⟨c, 0, none⟩) hc).trans h0, (World.cell?_of_block (a := ⟨pb, 0, none⟩) hp).trans h1, (World.cell?_of_block (a := ⟨pb, 1, none⟩) hp).trans h2,
    (World.cell?_of_block (a := ⟨kb, 0, none⟩) hk).trans k0, (World.cell?_of_block (a := ⟨kb, 1, none⟩) hk).trans k1, (World.cell?_of_block (a := ⟨kb, 2, none⟩) hk).trans k2, (World.cell?_of_block (a := ⟨kb, 3, none⟩) hk).trans k3, (World.cell?_of_block (a := ⟨kb, 4, none⟩) hk).trans k4,
    (World.cell?_of_block (a := ⟨vb, 0, none⟩) hv).trans v0, (World.cell?_of_block (a := ⟨vb, 1, none⟩) hv).trans v1, (World.cell?_of_block (a := ⟨vb, 2, none⟩) hv).trans v2, (World.cell?_of_block (a := ⟨vb, 3, none⟩) hv).trans v3, (World.cell?_of_block (a := ⟨vb, 4, none⟩) hv).trans v4⟩
end Go.Proofs.YtnjgebncghdajaaGreatDoor
