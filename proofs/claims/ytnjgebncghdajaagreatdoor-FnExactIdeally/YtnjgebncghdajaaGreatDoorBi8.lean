/-
  IdX, JdG.
-/
import Derived.Test.YtnjgebncghdajaaGreatDoorIdS2P
import Derived.Test.YtnjgebncghdajaaGreatDoorIdTP
import Derived.Test.YtnjgebncghdajaaGreatDoorIdUP
import Derived.Test.YtnjgebncghdajaaGreatDoorIdVP
import Derived.Test.YtnjgebncghdajaaGreatDoorIdWP
import Derived.Test.YtnjgebncghdajaaGreatDoorJdPP
namespace Go.Proofs.YtnjgebncghdajaaGreatDoor
open Go.RowKit
set_option linter.unusedVariables false

theorem l5do_any (c B : Nat) (vT vS : Value) (U : Nat → Value) (D : Ds) (a : Ac) (w : World) (hD : DeskM 45 w c B vT vS U D) (hG : D.Good) : DoSays c B vT vS U D a w := by
  by_cases hact : actB a = true
  · obtain ⟨⟨o1, o9⟩, ht0, _, hs0, _, _⟩ := act_rng hact
    by_cases h1 : a.op = 1
    · by_cases hf : D.nt = 100
      · exact do_full1 c B vT vS U D a w hD hG hact h1 hf
      · exact do_new c B vT vS U D a w hD hG hact h1 hf
    by_cases h7 : a.op = 7
    · by_cases hf : D.ns = 50
      · exact do_full7 c B vT vS U D a w hD hG hact h7 hf
      · exact do_site c B vT vS U D a w hD hG hact h7 hf
    have hT : tabB a.op = true := by simp [tabB, h1, h7]
    by_cases h2 : (D.nt : Int) ≤ a.t
    · exact do_e2 c B vT vS U D a w hD hG hact hT h2
    have h2' : a.t < (D.nt : Int) := by omega
    have h2n : a.t.toNat < D.nt := by omega
    have et : a.t = (a.t.toNat : Int) := by omega
    by_cases hS : sitB a.op = true
    · by_cases h3 : (D.ns : Int) ≤ a.site
      · exact do_e3 c B vT vS U D a w hD hG hact hT hS h2' h3
      · have h3n : a.site.toNat < D.ns := by omega
        have es : a.site = (a.site.toNat : Int) := by omega
        have h89 : a.op = 8 ∨ a.op = 9 := by simpa [sitB] using hS
        rcases h89 with h | h
        · exact do_field c B vT vS U D a w hD hG hact h _ et h2n _ es h3n
        · exact do_setField c B vT vS U D a w hD hG hact h _ et h2n _ es h3n
    · have h89 : a.op ≠ 8 ∧ a.op ≠ 9 := by simpa [sitB] using hS
      by_cases h23 : a.op = 2 ∨ a.op = 3
      · by_cases h4 : kcode a.k = 0
        · rcases h23 with h | h
          · exact do_put c B vT vS U D a w hD hG hact h _ et h2n h4
          · exact do_get c B vT vS U D a w hD hG hact h _ et h2n h4
        · exact do_e4 c B vT vS U D a w hD hG hact h23 h2' h4
      · exact do_ask c B vT vS U D a w hD hG hact (by omega) _ et h2n
  · exact do_e1 c B vT vS U D a w hD hG (by simpa using hact)
end Go.Proofs.YtnjgebncghdajaaGreatDoor
namespace Go.Proofs.YtnjgebncghdajaaGreatDoor
open Go.RowKit
set_option linter.unusedVariables false
set_option linter.unusedSimpArgs false
attribute [local go_sem] run_store_float run_equalIn_float

/-- What a round leaves. -/
structure IdRel (ty : TypeId) (w : World) (c ob rb : Nat) (f : Nat → Ac) (q : Nat) (va vT vS : Value) (U : Nat → Value) (wr : World) : Prop where
  dm : DeskM ty wr c w.heap.size vT vS U (aft f q)
  row : AOwn wr w.heap.size va q (ansF f)
  apart : ∀ k, va.ownBlock = some k → ¬ OwnD c vT vS U (aft f q).nt k
  obx : wr.heap[ob]? = some (.cells #[.bool true, va, .slice none 0 0] 27 (0, 0))
  rbx : wr.heap[rb]? = some (.cells #[.bool false, .slice none 0 0, .slice none 0 0] 27 (0, 0))
  obn : ∀ k, OwnD c vT vS U (aft f q).nt k → k ≠ ob ∧ k ≠ rb
  vn : ∀ k, va.ownBlock = some k → k ≠ ob ∧ k ≠ rb
  below : Below w.heap.size w wr
/-- One act and its answer. -/
theorem IdRel.step {ty : TypeId} {w : World} {c ob rb : Nat} {f : Nat → Ac} {q : Nat} {va vT vS vT' vS' : Value} {U U' : Nat → Value} {wr w2 w3 w4 w5 : World} {g3 cp3 : Nat} (h : IdRel ty w c ob rb f q va vT vS U wr)
    (hobw : w.heap.size ≤ ob) (hor : ob ≠ rb) (h2 : Below wr.heap.size wr w2) (hM : DeskM ty w3 c w.heap.size vT' vS' U' (aft f (q + 1))) (hD : Dst (OwnD c vT vS U (aft f q).nt) w2 (OwnD c vT' vS' U' (aft f (q + 1)).nt) w3)
    (h4 : Below w3.heap.size w3 w4) (h5 : w4.grownBy w5 va.ownBlock) (hown : w5.ownsRow w.heap.size 50 12 (.slice (some ⟨g3, 0, none⟩) (q + 1) cp3) (q + 1) (anR (ansF f) q ++ anL (ansF f q))) (hloc : va.ownBlock = some g3 ∨ g3 = w4.heap.size) :
    IdRel ty w c ob rb f (q + 1) (.slice (some ⟨g3, 0, none⟩) (q + 1) cp3) vT' vS' U' (w5.setCell ⟨ob, 1, none⟩ (.slice (some ⟨g3, 0, none⟩) (q + 1) cp3)) := by
  have hobl := blk_lt h.obx
  have hrbl := blk_lt h.rbx
  have z2 := h2.size
  have z3 := hD.size
  have z4 := h4.size
  have z5 := h5.size
  have nob : ¬ OwnD c vT vS U (aft f q).nt ob := fun e => (h.obn ob e).1 rfl
  have nrb : ¬ OwnD c vT vS U (aft f q).nt rb := fun e => (h.obn rb e).2 rfl
  have vob : va.ownBlock ≠ some ob := fun e => (h.vn ob e).1 rfl
  have vrb : va.ownBlock ≠ some rb := fun e => (h.vn rb e).2 rfl
  have gw : ∀ k, k < wr.heap.size → ¬ OwnD c vT vS U (aft f q).nt k → va.ownBlock ≠ some k → w5.heap[k]? = wr.heap[k]? := fun k hk hn hv => (h5.block k (by omega) (fun e => hv e.symm)).trans ((h4.block k (by omega)).trans ((hD.block k (by omega) hn).trans (h2.block k hk)))
  have o5 : w5.heap[ob]? = some (.cells #[.bool true, va, .slice none 0 0] 27 (0, 0)) := (gw ob hobl nob vob).trans h.obx
  have hrow := h.row.lt
  have own' : ∀ k, OwnD c vT' vS' U' (aft f (q + 1)).nt k → k ≠ ob ∧ k ≠ rb ∧ (∀ k', va.ownBlock = some k' → k ≠ k') ∧ k < w3.heap.size := fun k hk => by
    refine ⟨?_, ?_, ?_, (hM.rng hk).2⟩
    · intro e; subst e
      rcases hD.own _ hk with h1 | h1
      · exact nob h1
      · omega
    · intro e; subst e
      rcases hD.own _ hk with h1 | h1
      · exact nrb h1
      · omega
    · intro k' e1 e; subst e
      rcases hD.own _ hk with h1 | h1
      · exact h.apart _ e1 h1
      · have := (hrow _ e1).2; omega
  have hg3 : g3 ≠ ob := fun e => by
    rcases hloc with h1 | h1
    · exact vob (e ▸ h1)
    · omega
  have hg3r : g3 ≠ rb := fun e => by
    rcases hloc with h1 | h1
    · exact vrb (e ▸ h1)
    · omega
  refine ⟨hM.keep fun k hk => ?_, ?_, ?_, blk_set_same o5 _, ?_, fun k hk => ⟨(own' k hk).1, (own' k hk).2.1⟩, fun k e => ?_, ?_⟩
  · have hk' := own' k hk
    have hkl := hk'.2.2.2
    exact (Deep.blk_setCell_other _ _ _ _ (by exact hk'.1)).trans ((h5.block k (by omega) (fun e => hk'.2.2.1 k e.symm rfl)).trans (h4.block k hk'.2.2.2))
  · show World.ownsRow _ _ _ _ _ _ (anR (ansF f) q ++ anL (ansF f q))
    exact own_keep hown fun k e => by cases e; exact Deep.blk_setCell_other _ _ _ _ (by exact hg3)
  · intro k e hk
    cases e
    have hk' := own' _ hk
    rcases hloc with h1 | h1
    · exact hk'.2.2.1 _ h1 rfl
    · have h2 : g3 < w3.heap.size := hk'.2.2.2
      omega
  · exact (Deep.blk_setCell_other _ _ _ _ (by exact fun e => hor e.symm)).trans ((gw rb hrbl nrb vrb).trans h.rbx)
  · cases e; exact ⟨hg3, hg3r⟩
  · have hs := set_os w5 ⟨ob, 1, none⟩ (.slice (some ⟨g3, 0, none⟩) (q + 1) cp3)
    have hb := h.below
    refine ⟨by rw [hs.1, h5.os, h4.os, hD.os, h2.os, hb.os], by rw [hs.2.1, h5.tape, h4.tape, hD.tape, h2.tape, hb.tape], by rw [hs.2.2.1, h5.output, h4.output, hD.output, h2.output, hb.output], by rw [hs.2.2.2]; have := hb.size; omega, fun k hk => ?_⟩
    have hn : ¬ OwnD c vT vS U (aft f q).nt k := fun e => by have := (h.dm.rng e).1; omega
    have hv : va.ownBlock ≠ some k := fun e => by have := (hrow k e).1; omega
    exact (Deep.blk_setCell_other _ _ _ _ (by show k ≠ ob; omega)).trans ((gw k (Nat.lt_of_lt_of_le hk hb.size) hn hv).trans (hb.block k hk))

/-- A script that is done. -/
structure IdEnd (ty : TypeId) (w w' : World) (c n : Nat) (f : Nat → Ac) (va vT vS : Value) (U : Nat → Value) : Prop where
  dm : DeskM ty w' c w.heap.size vT vS U (aft f n)
  row : AOwn w' w.heap.size va n (ansF f)
  apart : ∀ k, va.ownBlock = some k → ¬ OwnD c vT vS U (aft f n).nt k
  below : Below w.heap.size w w'

set_option maxRecDepth 100000 in
set_option maxHeartbeats 8000000 in
theorem specIdeally_any (v : Value) (n : Nat) (f : Nat → Ac) (w : World) (hA : AcAt w v n f) (hn : n ≤ 1000) :
    Calls Tryz.prog 5 #[v] w fun e w' => ∃ c va vT vS U, e = .returned (IdV true va vT) ∧ IdEnd 45 w w' c n f va vT vS U := by
  obtain ⟨W, hW⟩ : ∃ W, W = ((w.alloc (.cells #[.bool false, .slice none 0 0, .slice none 0 0] 27)).alloc (.cells #[.slice none 0 0, .slice none 0 0] 45)).alloc (.cells #[.bool true, .slice none 0 0, .slice none 0 0] 27) := ⟨_, rfl⟩
  have hb0 : Below w.heap.size w W := by rw [hW]; exact (((Below.refl _ _).alloc (Nat.le_refl _) _).alloc (by simp) _).alloc (by simp; omega) _
  have hrb : W.heap[w.heap.size]? = some (.cells #[.bool false, .slice none 0 0, .slice none 0 0] 27 (0, 0)) := by
    rw [hW, Deep.blk_alloc_lt _ _ _ (by simp; omega), Deep.blk_alloc_lt _ _ _ (by simp)]; exact Deep.blk_alloc_new _ _
  have hc : W.heap[w.heap.size + 1]? = some (.cells #[.slice none 0 0, .slice none 0 0] 45 (0, 0)) := by
    rw [hW, Deep.blk_alloc_lt _ _ _ (by simp)]
    have h := Deep.blk_alloc_new (w.alloc (.cells #[.bool false, .slice none 0 0, .slice none 0 0] 27)) (.cells #[.slice none 0 0, .slice none 0 0] 45)
    rw [show (w.alloc (.cells #[.bool false, .slice none 0 0, .slice none 0 0] 27)).heap.size = w.heap.size + 1 by simp] at h
    exact h
  have hob : W.heap[w.heap.size + 1 + 1]? = some (.cells #[.bool true, .slice none 0 0, .slice none 0 0] 27 (0, 0)) := by
    have h := Deep.blk_alloc_new ((w.alloc (.cells #[.bool false, .slice none 0 0, .slice none 0 0] 27)).alloc (.cells #[.slice none 0 0, .slice none 0 0] 45)) (.cells #[.bool true, .slice none 0 0, .slice none 0 0] 27)
    rw [show ((w.alloc (.cells #[.bool false, .slice none 0 0, .slice none 0 0] 27)).alloc (.cells #[.slice none 0 0, .slice none 0 0] 45)).heap.size = w.heap.size + 1 + 1 by simp] at h
    rw [hW]; exact h
  have H0 : Hid (IdRel 45 w (w.heap.size + 1) (w.heap.size + 1 + 1) w.heap.size f 0 (.slice none 0 0) (.slice none 0 0) (.slice none 0 0) (fun _ => .slice none 0 0) W) := hide
    ⟨desk0 (by omega) hc, World.ownsRow_nil _ _ _ _, by simp [Value.ownBlock], hob, hrb, fun k h => by
      rcases h with h | h | h | ⟨i, hi, h⟩
      · omega
      · simp [Value.ownBlock] at h
      · simp [Value.ownBlock] at h
      · exact absurd hi (Nat.not_lt_zero _), by simp [Value.ownBlock], hb0⟩
  obtain ⟨ab, acp, rfl, habl, hcs⟩ := hA
  have HCS := hide hcs
  obtain ⟨i0, hi0, hz0, hz1, hz2⟩ := info_parts infoAns
  have d0 : decide ((1000 : Int) < (n : Int)) = false := by simp; omega
  clear hcs hb0 hrb hc hob
  go_enter Tryz.func5, Tryz.ntmps5
  go_wp2_with fail
  rw [← hW]
  clear hW
  go_loopw [17] (fun ix wr => ∃ (q : Nat) (va vT vS : Value) (U : Nat → Value), q ≤ n ∧ ix = .int .i64 q ∧ IdRel 45 w (w.heap.size + 1) (w.heap.size + 1 + 1) w.heap.size f q va vT vS U wr) (fun ix _ => n - (intOf ix).toNat)
  case atStart => exact ⟨0, _, _, _, _, Nat.zero_le _, rfl, unhide H0⟩
  case round =>
    obtain ⟨q, va, vT, vS, U, hq, rfl, hR⟩ := hrel
    have HR := hide hR
    have habr : ab < wr.heap.size := Nat.lt_of_lt_of_le habl hR.below.size
    by_cases hqn : q < n
    · have hc14 : ∀ j u, (ActBx (f q)).toList[j]? = some u → wr.cell? ⟨ab, q * 14 + j, none⟩ = some u := fun j u hu => (hR.below.cell (p := ⟨ab, q * 14 + j, none⟩) habl).trans (unhide HCS q hqn j u hu)
      have b0 := hc14 0 _ rfl; have b1 := hc14 1 _ rfl; have b2 := hc14 2 _ rfl; have b3 := hc14 3 _ rfl; have b4 := hc14 4 _ rfl; have b5 := hc14 5 _ rfl; have b6 := hc14 6 _ rfl
      have b7 := hc14 7 _ rfl; have b8 := hc14 8 _ rfl; have b9 := hc14 9 _ rfl; have b10 := hc14 10 _ rfl; have b11 := hc14 11 _ rfl; have b12 := hc14 12 _ rfl; have b13 := hc14 13 _ rfl
      rw [Nat.add_zero] at b0
      clear hR hc14
      go_wp2_with fail
      have HR2 := hide ((unhide HR).below)
      refine (l5do_any (w.heap.size + 1) w.heap.size vT vS U (aft f q) (f q) _ ((unhide HR).dm.below ((Below.refl _ _).alloc (Nat.le_refl _) _)) (aft_good f q)).mono ?_
      rintro e w3 ⟨rfl, vT', vS', U', hM3, hD3⟩
      have HM3 : Hid (DeskM 45 w3 (w.heap.size + 1) w.heap.size vT' vS' U' (aft f (q + 1))) := hide hM3
      have HD3 : Hid (Dst (OwnD (w.heap.size + 1) vT vS U (aft f q).nt) (wr.alloc (.cells (ActBx (f q)) 48)) (OwnD (w.heap.size + 1) vT' vS' U' (aft f (q + 1)).nt) w3) := hide hD3
      obtain ⟨x, hx⟩ : ∃ x, ansF f q = x := ⟨_, rfl⟩
      rw [show (aft f q).ans (f q) = x from hx, show AnV x = anO x from rfl]
      have HXX := hide hx
      have z3 : wr.heap.size + 1 ≤ w3.heap.size := by have := hD3.size; simpa using this
      clear hM3 hD3 hx b0 b1 b2 b3 b4 b5 b6 b7 b8 b9 b10 b11 b12 b13
      have zob : w.heap.size + 1 + 1 < wr.heap.size := blk_lt (unhide HR).obx
      have HOB : Hid (∀ w4, Below w3.heap.size w3 w4 → w4.heap[w.heap.size + 1 + 1]? = some (.cells #[.bool true, va, .slice none 0 0] 27 (0, 0))) := hide (fun w4 h4 => (h4.block _ (by omega)).trans (((unhide HD3).block _ (by simp; omega) (fun e => ((unhide HR).obn _ e).1 rfl)).trans ((Deep.blk_alloc_lt _ _ _ zob).trans (unhide HR).obx)))
      have HVA : Hid (∀ w4, Below w3.heap.size w3 w4 → AOwn w4 w.heap.size va q (ansF f)) := hide (fun w4 h4 => own_keep (unhide HR).row fun k e => by
        have hk := ((unhide HR).row.lt k e).2
        exact (h4.block _ (by omega)).trans (((unhide HD3).block _ (by simp; omega) (fun e2 => (unhide HR).apart k e e2)).trans (Deep.blk_alloc_lt _ _ _ hk)))
      have HF : Hid (∀ w4, w4 = w3.alloc (.cells (anL x).toArray 50) → Below w3.heap.size w3 w4 ∧ w4.heap[w3.heap.size]? = some (.cells (anL x).toArray 50 (0, 0))) := hide (fun w4 h => by
        exact ⟨by rw [h]; exact (Below.refl _ _).alloc (Nat.le_refl _) _, by rw [h]; exact Deep.blk_alloc_new _ _⟩)
      go_simp
      rename_i hKs
      refine hKs _ _ ?_
      refine wpList_plain rfl fun K hK => ?_
      go_simp
      refine hK _ _ ?_
      clear hK K
      refine wpList_store rfl rfl _ (st_ans w3 x) ?_
      generalize hw4 : w3.alloc (.cells (anL x).toArray 50) = w4
      obtain ⟨hb4, hx4⟩ := unhide HF _ hw4.symm
      have HB4 := hide hb4
      have z4 := blk_lt hx4
      have o4 := unhide HOB w4 hb4
      have zob4 : w.heap.size + 1 + 1 < w4.heap.size := blk_lt o4
      have o1 : w4.cell? ⟨w.heap.size + 1 + 1, 1, none⟩ = some va := by rw [cell_of_row w4 _ 1 _ _ _ o4]; rfl
      have s := ans_cells hx4
      have s0 := s 0 _ rfl; have s1 := s 1 _ rfl; have s2 := s 2 _ rfl; have s3 := s 3 _ rfl; have s4 := s 4 _ rfl; have s5 := s 5 _ rfl
      have s6 := s 6 _ rfl; have s7 := s 7 _ rfl; have s8 := s 8 _ rfl; have s9 := s 9 _ rfl; have s10 := s 10 _ rfl; have s11 := s 11 _ rfl
      have HOW : Hid ((w4.alloc (.cells (anL x).toArray 50)).ownsRow w.heap.size 50 12 va q (anR (ansF f) q)) := hide (World.ownsRow.alloc (unhide HVA w4 hb4) _)
      have zb : w.heap.size ≤ w4.heap.size + 1 := by omega
      have HST : Hid (∀ g3 cp3 w5, w5.ownsRow w.heap.size 50 12 (.slice (some ⟨g3, 0, none⟩) (q + 1) cp3) (q + 1) (anR (ansF f) q ++ anL x) → (w4.alloc (.cells (anL x).toArray 50)).grownBy w5 va.ownBlock → (va.ownBlock = some g3 ∨ g3 = w4.heap.size + 1) →
          w5.heap[w.heap.size + 1 + 1]? = some (.cells #[.bool true, va, .slice none 0 0] 27 (0, 0)) ∧ IdRel 45 w (w.heap.size + 1) (w.heap.size + 1 + 1) w.heap.size f (q + 1) (.slice (some ⟨g3, 0, none⟩) (q + 1) cp3) vT' vS' U' (w5.setCell ⟨w.heap.size + 1 + 1, 1, none⟩ (.slice (some ⟨g3, 0, none⟩) (q + 1) cp3))) := hide (fun g3 cp3 w5 k1 k2 k3 => by
        have hb5 : Below w3.heap.size w3 (w4.alloc (.cells (anL x).toArray 50)) := hb4.alloc (by omega) _
        refine ⟨(k2.block _ (by simp; omega) (fun e => ((unhide HR).vn _ e.symm).1 rfl)).trans ((Deep.blk_alloc_lt _ _ _ zob4).trans o4), ?_⟩
        exact (unhide HR).step (by omega) (by omega) ((Below.refl _ _).alloc (Nat.le_refl _) (.cells (ActBx (f q)) 48)) (unhide HM3) (unhide HD3) hb5 k2 (by rw [unhide HXX]; exact k1) (k3.imp id (fun e => by rw [e]; simp)))
      clear hw4 hb4 hx4 HF HOB HVA s o4
      go_wp2_with (first | (at_builtin; refine wpList_append_lies _ rfl _ _ 24 rfl w.heap.size 50 i0 (.agg An0) 12 112 Tryz.underlying24 hi0 hz0 hz1 hz2 rfl (by decide) va q (anR (ansF f) q) rfl (unhide HOW) ⟨w4.heap.size, 0, none⟩ 1 1 (anL x) rfl rfl (World.news_of_block (Deep.blk_alloc_new w4 _)) (anL_one x) (by decide) (by unfold maxLen; omega) (by omega) (by simp; omega) (w4.heap.size + 1) (by simp) ?_; intro g3 cp3 w5 hown3 hgr3 hloc3 hlt3; obtain ⟨o5, hR5⟩ := unhide HST g3 cp3 w5 hown3 hgr3 hloc3; have HR5 := hide hR5; have zo5 := blk_lt o5; have o51 : w5.cell? ⟨w.heap.size + 1 + 1, 1, none⟩ = some va := (by rw [cell_of_row w5 _ 1 _ _ _ o5]; rfl); have fo5 : w5.frozen? ⟨w.heap.size + 1 + 1, 1, none⟩ = false := (by simp [World.frozen?, o5]); clear hown3 hgr3 hloc3 hR5 o5) | go_in)
      go_roundw
      case rel => exact ⟨q + 1, _, _, _, _, by omega, by go_num, unhide HR5⟩
      case measure => simp [intOf]; omega
    · have hqe : q = n := by omega
      subst hqe
      obtain ⟨c0, c1⟩ := hR.dm.cells
      have zc := hR.dm.lt
      have zo := blk_lt hR.obx
      have zr := blk_lt hR.rbx
      obtain ⟨ta, tcp, rfl⟩ := own_slice hR.dm.tb
      obtain ⟨va1, vcp, rfl⟩ := own_slice hR.row
      have o0 : wr.cell? ⟨w.heap.size + 1 + 1, 0, none⟩ = some (.bool true) := by rw [cell_of_row wr _ 0 _ _ _ hR.obx]; rfl
      have o1 : wr.cell? ⟨w.heap.size + 1 + 1, 1, none⟩ = some (.slice va1 q vcp) := by rw [cell_of_row wr _ 1 _ _ _ hR.obx]; rfl
      have o2 : wr.cell? ⟨w.heap.size + 1 + 1, 2, none⟩ = some (.slice none 0 0) := by rw [cell_of_row wr _ 2 _ _ _ hR.obx]; rfl
      have p0 : wr.cell? ⟨w.heap.size, 0, none⟩ = some (.bool false) := by rw [cell_of_row wr _ 0 _ _ _ hR.rbx]; rfl
      have p1 : wr.cell? ⟨w.heap.size, 1, none⟩ = some (.slice none 0 0) := by rw [cell_of_row wr _ 1 _ _ _ hR.rbx]; rfl
      have p2 : wr.cell? ⟨w.heap.size, 2, none⟩ = some (.slice none 0 0) := by rw [cell_of_row wr _ 2 _ _ _ hR.rbx]; rfl
      have fo : ∀ j, wr.frozen? ⟨w.heap.size + 1 + 1, j, none⟩ = false := fun j => by simp [World.frozen?, hR.obx]
      have fp : ∀ j, wr.frozen? ⟨w.heap.size, j, none⟩ = false := fun j => by simp [World.frozen?, hR.rbx]
      have HFIN : Hid (∀ w', (∀ k, k ≠ w.heap.size + 1 + 1 → k ≠ w.heap.size → w'.heap[k]? = wr.heap[k]?) → w'.os = wr.os → w'.tape = wr.tape → w'.output = wr.output → w'.heap.size = wr.heap.size → IdEnd 45 w w' (w.heap.size + 1) q f (.slice va1 q vcp) (.slice ta (aft f q).nt tcp) vS U) := hide (fun w' hk h1 h2 h3 h4 =>
        ⟨hR.dm.keep fun k hk2 => hk k (hR.obn k hk2).1 (hR.obn k hk2).2, own_keep hR.row fun k e => hk k (hR.vn k e).1 (hR.vn k e).2, hR.apart, ⟨by rw [h1, hR.below.os], by rw [h2, hR.below.tape], by rw [h3, hR.below.output], by rw [h4]; exact hR.below.size, fun k hk2 => (hk k (by omega) (by omega)).trans (hR.below.block k hk2)⟩⟩)
      clear hR HR
      go_wp2_with fail
      refine bodyPost_ret (v := IdV true (.slice va1 q vcp) (.slice ta (aft f q).nt tcp)) (by simp [results, Tryz.results5, go_sem, p0, p1, p2]) rfl ⟨w.heap.size + 1, .slice va1 q vcp, .slice ta (aft f q).nt tcp, vS, U, rfl, unhide HFIN _ ?_ ?_ ?_ ?_ ?_⟩
      · intro k h1 h2
        repeat rw [Deep.blk_setCell_other _ _ _ _ (by first | exact h1 | exact h2)]
      all_goals first | rfl | (simp; done)
end Go.Proofs.YtnjgebncghdajaaGreatDoor
