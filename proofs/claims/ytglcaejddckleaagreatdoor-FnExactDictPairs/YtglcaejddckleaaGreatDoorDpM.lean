/-
  DpA, DpB, DpC, Mark, DmA, DmB, DmC, DpD in one text.
-/
import Derived.Test.YtglcaejddckleaaGreatDoorDkN
import Derived.Stop.RegionWithIn
import Derived.Test.YtglcaejddckleaaGreatDoorDigits
import Derived.Test.YtglcaejddckleaaGreatDoorDkM
import Derived.Deep.RegionHeld3
namespace Go.Proofs.YtglcaejddckleaaGreatDoor
open Go.RowKit
set_option linter.unusedVariables false
attribute [local go_sem] run_store_float run_equalIn_float

/-- The living pairs, in their order. -/
def lvF (d : Dc) (j : Nat) : Pr := d.L ((livL d d.n).getD j 0)
/-- How many live. -/
def lvN (d : Dc) : Nat := (livL d d.n).length
theorem lvF_at {d : Dc} {k : Nat} (hk : k < d.n) (h : (d.L k).turn ≠ 0) : lvF d (livL d k).length = d.L k := by
  unfold lvF
  obtain ⟨r, hr⟩ := livL_prefix (d := d) (k := k + 1) (n := d.n) (by omega)
  rw [livL_live h] at hr
  rw [← hr]
  simp [List.getD]
theorem lvN_le (d : Dc) : lvN d ≤ d.n := livL_le d d.n

open Classical in
/-- What is told of the pairs: none when the dict is not sound. -/
noncomputable def prsN (d : Dc) : Nat := if dictOk d (hD d) = 0 then lvN d else 0
theorem prsN_le (d : Dc) : prsN d ≤ d.n := by
  unfold prsN
  split
  · exact lvN_le d
  · omega

theorem news_after (wr : World) (o1 : Obj) (cs : List Value) (t : TypeId) : ∀ j u, cs[j]? = some u → ((wr.alloc o1).alloc (.cells cs.toArray t)).cell? ((⟨wr.heap.size + 1, 0, none⟩ : Addr).add j) = some u := by
  have hb := Deep.blk_alloc_new (wr.alloc o1) (.cells cs.toArray t)
  have hz : (wr.alloc o1).heap.size = wr.heap.size + 1 := by simp
  rw [hz] at hb
  exact World.news_of_block hb

set_option maxRecDepth 100000 in
set_option maxHeartbeats 4000000 in
theorem l1pairs_any (la : Option Addr) (lc : Nat) (ia : Option Addr) (ic : Nat) (xa : Option Addr) (xc : Nat) (d : Dc) (w : World) (hP : PAt w la d.n d.L) (hS : Small d) (h2 : D2 d) :
    Calls Tryz.prog 69 #[Dv la lc ia ic xa xc d] w fun e w' => (∃ v, e = .returned v ∧ POwn w' w.heap.size v (lvN d) (lvF d)) ∧ Below w.heap.size w w' := by
  obtain ⟨i0, hi, hz0, hz1, hz2⟩ := info_parts infoPair
  have hn := hS.n
  have HP := hide hP
  have H2 := hide h2
  clear hP hS h2
  go_enter Tryz.func69, Tryz.ntmps69
  go_wp2
  go_loopw [9, 3] (fun i o wr => ∃ (k : Nat) (v : Value), k ≤ d.n ∧ i = .int .i64 k ∧ v = o ∧ POwn wr w.heap.size v (livL d k).length (lvF d) ∧ Below w.heap.size w wr) (fun i o _ => d.n - (intOf i).toNat)
  case atStart => exact ⟨0, _, by omega, rfl, rfl, World.ownsRow_nil _ _ _ _, (Below.refl _ _).alloc (Nat.le_refl _) _⟩
  case round =>
    obtain ⟨k, v, hk, rfl, rfl, ho, hb⟩ := hrel
    by_cases hkn : k < d.n
    · obtain ⟨b, off, rfl, hlt, hcs⟩ := (unhide HP).resolve_left (by omega)
      obtain ⟨e0, e1, e2, e3, e4, e5, e6, e7, e8, e9, e10⟩ := (hcs k hkn).keep (fun q => hb.cell (p := ⟨b, q, none⟩) hlt)
      have hws := hb.size
      have hml := livL_le d k
      have HB := hide hb
      have HO := hide ho
      clear hcs hb ho
      by_cases hp : 0 < (d.L k).turn
      · have hne : (d.L k).turn ≠ 0 := by omega
        have HF := hide (lvF_at hkn hne)
        have HN := hide (livL_live hne)
        have hdp : decide (0 < (d.L k).turn) = true := by simp [hp]
        have hltv := hide (unhide HO).lt
        clear hne
        go_wp2_with (first | (at_builtin; refine wpList_append_lies _ rfl _ _ 23 rfl w.heap.size 43 i0 PZ 11 104 Tryz.underlying23 hi hz0 hz1 hz2 rfl (by decide) v (livL d k).length (pL (lvF d) (livL d k).length) rfl (((unhide HO).alloc _).alloc _) ⟨wr.heap.size + 1, 0, none⟩ 1 1 (prL (d.L k)) rfl rfl (news_after wr _ (prL (d.L k)) _) (prL_one _) (by decide) (by unfold maxLen; omega) (by omega) (by simp; omega) _ rfl ?_; intro g3 cp3 w3 hown3 hgr3 hloc3 hlt3; have HG3 := hide ((((unhide HB).alloc (by omega) _).alloc (by simp; omega) _).trans (grown_below hgr3 (fun q e => (unhide hltv q e).1) (by simp; omega))); have HO3 := hide hown3; clear hown3 hgr3) | go_in)
        go_roundw
        case rel =>
          refine ⟨k + 1, _, by omega, by go_num, rfl, ?_, unhide HG3⟩
          have h := unhide HO3
          rw [unhide HN, List.length_append, List.length_singleton]
          show w3.ownsRow w.heap.size _ 11 _ _ (pL (lvF d) (livL d k).length ++ prL (lvF d (livL d k).length))
          rw [unhide HF]
          exact h
        case measure => simp [intOf]; omega
      · have hz0' : (d.L k).turn = 0 := by
          rcases (unhide H2).entry hkn with h | h
          · exact h.1
          · exact absurd h.1 hp
        have HN : Hid (livL d (k + 1) = livL d k) := hide (livL_dead hz0')
        clear hp
        rw [hz0'] at e10
        clear hz0'
        go_wp2
        go_roundw
        case rel =>
          refine ⟨k + 1, _, by omega, by go_num, rfl, ?_, (unhide HB).alloc hws _⟩
          rw [unhide HN]
          exact (unhide HO).alloc _
        case measure => simp [intOf]; omega
    · have hkn' : k = d.n := by omega
      subst hkn'
      have HB := hide hb
      have HO := hide ho
      clear hb ho
      go_wp2
      go_ret
      exact ⟨⟨_, rfl, unhide HO⟩, unhide HB⟩

set_option maxRecDepth 100000 in
set_option maxHeartbeats 2000000 in
theorem specPairs (la : Option Addr) (lc : Nat) (ia : Option Addr) (ic : Nat) (xa : Option Addr) (xc : Nat) (d : Dc) (w : World) (hA : DAt w la ia xa d) (hS : Small d) (hW : WfD d) :
    Calls Tryz.prog 24 #[Dv la lc ia ic xa xc d] w fun e w' => (∃ v, e = .returned v ∧ POwn w' w.heap.size v (prsN d) (lvF d)) ∧ Below w.heap.size w w' := by
  have HA := hide hA
  have HS := hide hS
  have HW := hide hW
  clear hA hS hW
  have hb0 : Below w.heap.size w (w.alloc (.cells #[.slice la d.n lc, .slice ia d.m ic, .slice xa d.x xc, .int .i64 d.used, .int .i64 d.live, .int .i64 d.turns] 26)) := (Below.refl _ _).alloc (Nat.le_refl _) _
  have HB0 := hide hb0
  clear hb0
  go_enter Tryz.func24, Tryz.ntmps24
  go_wp2_with fail
  refine (specOk la lc ia ic xa xc d _ ((unhide HA).below (unhide HB0)) (unhide HS) (unhide HW)).mono ?_
  rintro e w1 ⟨rfl, hb1⟩
  obtain ⟨hc1, hf1⟩ := bcell hb1
  have hz1 := hb1.size
  simp at hz1
  have y0 : w.heap.size < w1.heap.size := by omega
  have HB1 := hide ((unhide HB0).trans (hb1.mono (unhide HB0).size))
  clear hb1
  by_cases hk : dictOk d (hD d) = 0
  case neg =>
    have HR : Hid (prsN d = 0) := hide (if_neg hk)
    have hk' : (dictOk d (hD d) != 0) = true := by simp [hk]
    clear hk
    generalize dictOk d (hD d) = ok at hk'
    go_wp2
    go_ret
    exact ⟨⟨_, rfl, by rw [unhide HR]; exact World.ownsRow_nil _ _ _ _⟩, unhide HB1⟩
  have HR : Hid (prsN d = lvN d) := hide (if_pos hk)
  have HSd := hide (sound_of hk)
  rw [hk]
  clear hk
  go_wp2_with fail
  refine (l1pairs_any la lc ia ic xa xc d _ ((unhide HA).below (unhide HB1)).log (unhide HS) (unhide HSd).d2).mono ?_
  rintro e w2 ⟨⟨v, rfl, ho⟩, hb2⟩
  have HO := hide ho
  have HB2 := hide ((unhide HB1).trans (hb2.mono (unhide HB1).size))
  clear hb2 ho
  go_wp2
  go_ret
  exact ⟨⟨_, rfl, by rw [unhide HR]; exact own_mono (unhide HO) (by omega)⟩, unhide HB2⟩
end Go.Proofs.YtglcaejddckleaaGreatDoor

namespace Go.Proofs.YtglcaejddckleaaGreatDoor
open Go.RowKit Go.Shelf
set_option linter.unusedVariables false
attribute [local go_sem] run_store_float run_equalIn_float Oper.semAt_some

/-- All blocks below n0 but p lie as they lay. -/
structure KpB (p n0 : Nat) (A B : World) : Prop where
  size : A.heap.size ≤ B.heap.size
  block : ∀ b, b < n0 → b ≠ p → B.heap[b]? = A.heap[b]?
theorem KpB.refl (p n0 : Nat) (A : World) : KpB p n0 A A := ⟨Nat.le_refl _, fun _ _ _ => rfl⟩
theorem KpB.trans {p n0 : Nat} {A B C : World} (h : KpB p n0 A B) (k : KpB p n0 B C) : KpB p n0 A C := ⟨Nat.le_trans h.size k.size, fun b h1 h2 => (k.block b h1 h2).trans (h.block b h1 h2)⟩
theorem KpB.put {p n0 : Nat} {w : World} (hn : n0 ≤ w.heap.size) (W : World) (l : Nat) (o o' : Obj) (hl : w.heap.size ≤ l) (h : W.heap[l]? = some o) (_ : o.isCells = false) (_ : o.isWalk = false) : KpB p n0 W (W.putObj l o') := by
  have hb := (Below.refl n0 W).grown (grownBy_putObj' W l o') (by have := (Array.getElem?_eq_some_iff.1 h).1; omega) (fun k e => by cases e; omega)
  exact ⟨hb.size, fun b h1 _ => hb.block b h1⟩

theorem kept_cells {A B : World} {row : Option Nat} {b : Nat} {c : Array Value} {t : TypeId} {fz : Nat × Nat} {D : Nat} (h : A.heap[b]? = some (.cells c t fz)) (hg : A.grownBy B row) (hr : ∀ r, row = some r → D ≤ r ∧ ∃ o : Obj, A.heap[r]? = some o ∧ o.isCells = false) : B.heap[b]? = A.heap[b]? :=
  hg.block b (Array.getElem?_eq_some_iff.1 h).1 (fun e => by
    obtain ⟨_, o, ho, hc⟩ := hr b e.symm
    rw [h] at ho
    cases ho
    cases hc)
theorem own_keptO {A B : World} {row : Option Nat} {D base e size : Nat} {v : Value} {n : Nat} {xs : List Value} (h : A.ownsRow base e size v n xs) (hg : A.grownBy B row) (hr : ∀ r, row = some r → D ≤ r ∧ ∃ o : Obj, A.heap[r]? = some o ∧ o.isCells = false) : B.ownsRow base e size v n xs := by
  obtain ⟨hl, h | ⟨g, cap, cur, h1, h2, h3, h4⟩⟩ := h
  · exact ⟨hl, .inl h⟩
  · exact ⟨hl, .inr ⟨g, cap, cur, h1, h2, (kept_cells h3 hg hr).trans h3, h4⟩⟩

section
variable {P : Program}
/-- append, in a round of a range over a function. -/
theorem wpIn_append_lies (w : World) {l n' : Nat} {o : Oper} {a : Act} {K : Act → World → Prop} {Q : Exit → Act → World → Prop} (s x : Operand) (t : TypeId)
    (ho : o.op = .call { callee := .builtin .append, args := #[s, x], argTypes := #[t, t] })
    (base : Nat) (e : TypeId) (i : TypeInfo) (z : Value) (size bytes : Nat) (ht : P.underlying t = some (.slice e)) (hi : P.info? e = some i) (hz : i.zero = some z)
    (hsize : i.size = size) (hby : i.bytes = bytes) (hzs : z.cells.size = size) (hsz : 0 < size)
    (v : Value) (n : Nat) (xs : List Value) (hs : a.eval s = v) (hown : w.ownsRow base e size v n xs)
    (ad : Addr) (m c : Nat) (news : List Value) (hx : a.eval x = .slice (some ad) m c) (hl : news.length = m * size) (hnews : ∀ j u, news[j]? = some u → w.cell? (ad.add j) = some u) (h1 : ∀ u ∈ news, u.oneCell' = true)
    (hm : 0 < m) (h63 : n + m ≤ maxLen) (hbytes : (n + m) * bytes ≤ 140737488355328) (hbase : base ≤ w.heap.size) (H : Nat) (hH : w.heap.size = H)
    (h : ∀ g cap w', w'.ownsRow base e size (.slice (some ⟨g, 0, none⟩) (n + m) cap) (n + m) (xs ++ news) → w.grownBy w' v.ownBlock → (v.ownBlock = some g ∨ g = H) → g < w'.heap.size → K (a.put o.dst (.slice (some ⟨g, 0, none⟩) (n + m) cap)) w') : o.wpIn (Fence.wide.inRound l) n' P a w K Q := by
  obtain ⟨g, cap, w', hr, h2, h3, h4, h5⟩ := run_append_lies (P := P) w t o.type base e i z size bytes ht hi hz hsize hby hzs hsz v n xs hown ad m c news hl hnews h1 hm h63 hbytes hbase H hH
  refine ⟨fun _ _ => trivial, ?_⟩
  show o.uponIn (Fence.wide.inRound l) n' P a K Q ((o.semAt (some l) a.eval).run P w)
  rw [Oper.semAt_some l _ _ (fun c e => by rw [ho] at e; cases e)]
  unfold execOp
  simp only [ho, resolve, invoke, builtin, Sem.run_bind, Sem.run_pure, Result.andThen_ok, List.map_toArray, List.map_cons, List.map_nil, hs, hx, hr]
  exact h g cap w' h2 h3 h4 h5
end

set_option maxRecDepth 100000 in
set_option maxHeartbeats 2000000 in
theorem living_stopsP (n : Nat) (hn : 1 ≤ n) (bk R0 R1 R2 mb p n0 : Nat) (E S : Nat → Nat) (d : Dc) (w : World) (hB : Book w bk R0 R1 R2 E S d) (hS : Small d) (hR : 0 < d.n → R0 < n0 ∧ R0 ≠ p) (hE : ∀ i, i < d.n → E i < n0 ∧ E i ≠ p)
    (m0 : w.cell? ⟨mb, 0, none⟩ = some (.pointer (some ⟨bk, 0, none⟩))) :
    SeqStopsK Fence.wide n Tryz.prog 107 #[.pointer (some ⟨mb, 0, none⟩)] (fun a : Liv d => #[.pointer (some ⟨E a.1, 0, none⟩)]) (KpB p n0)
      (LvAll d) (LvPre d) d.n w := fun l J Jx W hW hJ hJx hY h0 => by
  have lm := World.block_lt_of_cell? _ _ m0
  have m0 := (hW.cell (p := ⟨mb, 0, none⟩) lm).trans m0
  have hBk := hB.below hW
  obtain ⟨a0, k0, c0, ha0⟩ := hBk.c0
  have HA0 := hide ha0
  clear ha0
  have lb := hBk.lt
  have hnn := hS.n
  have HY := hide hY
  have H0 := hide h0
  have HBk := hide hBk
  have HE := hide hE
  clear hJx hJ hY hW h0 hBk hB hS hE
  refine callsIn_of_wp Tryz.func107 rfl trivial ?_ rfl
  simp only [Tryz.ntmps107, List.size_toArray, List.length_cons, List.length_nil, Nat.reduceAdd, Nat.reduceSub, Array.replicate_succ, Array.replicate_zero, List.push_toArray, List.append_toArray, List.nil_append, List.cons_append]
  gi_wp2
  gi_loopw [10] (fun i wr => ∃ (k : Nat) (pre : List (Liv d)), k ≤ d.n ∧ i = .int .i64 (k : Int) ∧ LvTo d k pre ∧ J pre wr ∧ KpB p n0 W wr) (fun i _ => d.n - (intOf i).toNat)
  case atStart => exact ⟨0, [], by omega, rfl, rfl, unhide H0, KpB.refl _ _ _⟩
  case round =>
    obtain ⟨k, pre, hk, rfl, hlv, hJp, hbw⟩ := hrel
    by_cases hkn : k < d.n
    · obtain rfl := unhide HA0 (by omega)
      have p0 := (World.cell?_of_block (a := ⟨R0, k, none⟩) (hbw.block _ (hR (by omega)).1 (hR (by omega)).2)).trans ((unhide HBk).r0 k hkn)
      have t0 := (World.cell?_of_block (a := ⟨E k, 10, none⟩) (hbw.block _ (unhide HE k hkn).1 (unhide HE k hkn).2)).trans ((unhide HBk).ent k hkn).tn
      have HLV := hide hlv
      have HBW := hide hbw
      clear hlv hbw
      by_cases ht : (d.L k).turn = 0
      · have HN : Hid (LvTo d (k + 1) pre) := hide (by unfold LvTo; rw [livL_dead ht]; exact unhide HLV)
        rw [ht] at t0
        clear ht
        gi_wp2
        refine ⟨fun _ h => (by cases h), ?_⟩
        gi_wp2
        go_roundw
        case rel => exact ⟨k + 1, pre, by omega, by go_num, unhide HN, hJp, unhide HBW⟩
        case measure => simp [intOf]; omega
      · have ht' : ((d.L k).turn != 0) = true := by simp [ht]
        obtain ⟨fn, tmps, assign, body, hy, hRR⟩ := unhide HY pre ⟨k, hkn, ht⟩ wr hJp (by
          have h1 : (pre.map (·.1)).length = (livL d k).length := congrArg List.length (unhide HLV)
          rw [List.length_map] at h1
          have := livL_le d k
          omega)
        have HN : Hid (LvTo d (k + 1) (pre ++ [⟨k, hkn, ht⟩])) := hide (by
          unfold LvTo
          rw [livL_live ht, List.map_append, show pre.map (·.1) = livL d k from unhide HLV]
          rfl)
        have HR := hide hRR
        clear hRR hJp
        dsimp only at hy
        gi_wp2
        refine (unhide HR).mono ?_
        rintro e W3 (⟨rfl, hJ3, hk3⟩ | ⟨rfl, hJx3⟩)
        · clear HR hy
          gi_wp2
          go_roundw
          case rel => exact ⟨k + 1, _, by omega, by go_num, unhide HN, hJ3, (unhide HBW).trans hk3⟩
          case measure => simp [intOf]; omega
        · clear HR hy
          gi_wp2
          refine bodyPost_ret (results_none rfl _ _ _) rfl ?_
          exact ⟨⟨_, rfl⟩, .inr ⟨_, (unhide HN).pre (by omega), hJx3⟩⟩
    · have hkn' : k = d.n := by omega
      subst hkn'
      have HS := hide hlv
      clear hlv
      gi_wp2
      go_end0
      exact ⟨⟨_, rfl⟩, .inl ⟨pre, unhide HS, hJp⟩⟩
end Go.Proofs.YtglcaejddckleaaGreatDoor

namespace Go.Proofs.YtglcaejddckleaaGreatDoor
open Go.RowKit Go.Shelf
set_option linter.unusedVariables false
attribute [local go_sem] run_store_float run_equalIn_float Oper.semAt_some

/-- The pairs that have come. -/
def preF (d : Dc) (pre : List (Liv d)) (j : Nat) : Pr := d.L ((pre.map (·.1)).getD j 0)
theorem pL_congr {f g : Nat → Pr} {n : Nat} (h : ∀ j, j < n → f j = g j) : pL f n = pL g n := by
  induction n with
  | zero => rfl
  | succ n ih => show pL f n ++ prL (f n) = pL g n ++ prL (g n); rw [ih (fun j hj => h j (by omega)), h n (by omega)]
theorem preF_snoc (d : Dc) (pre : List (Liv d)) (x : Liv d) : pL (preF d pre) pre.length ++ prL (d.L x.1) = pL (preF d (pre ++ [x])) (pre.length + 1) := by
  show _ = pL (preF d (pre ++ [x])) pre.length ++ prL (preF d (pre ++ [x]) pre.length)
  rw [pL_congr (f := preF d (pre ++ [x])) (g := preF d pre) (fun j hj => by
    unfold preF
    rw [List.map_append, List.getD_eq_getElem?_getD, List.getD_eq_getElem?_getD, List.getElem?_append_left (by simpa using hj)])]
  congr 2
  unfold preF
  rw [List.map_append]
  simp [List.getD]
theorem preF_all {d : Dc} {pre : List (Liv d)} (h : pre.map (·.1) = livL d d.n) : preF d pre = lvF d := by
  funext j
  unfold preF lvF
  rw [h]

/-- Between two rounds. -/
def PrI (w u : World) (p n0 : Nat) (d : Dc) (pre : List (Liv d)) (W : World) : Prop :=
  ∃ v, W.rowIs p 23 1 (fun _ => v) ∧ POwn W n0 v pre.length (preF d pre) ∧ KpB p n0 u W ∧ Below w.heap.size w W
theorem PrI.own (w u : World) (p n0 D : Nat) (d : Dc) (hn : n0 ≤ D) (hu : n0 ≤ u.heap.size) (hw : w.heap.size ≤ D) : OwnFrom D (PrI w u p n0 d) := by
  rintro pre A B row ⟨v, h1, h2, h3, h4⟩ hg hr
  refine ⟨v, ?_, own_keptO h2 hg hr, ⟨Nat.le_trans h3.size hg.size, fun b hb hp => ?_⟩, h4.grown hg h4.size (fun k e => Nat.le_trans hw (hr k e).1)⟩
  · obtain ⟨c, hb, hc⟩ := h1
    exact World.rowIs.of_block ⟨c, hb, hc⟩ (kept_cells hb hg hr)
  · have hl : b < A.heap.size := Nat.lt_of_lt_of_le hb (Nat.le_trans hu h3.size)
    exact (hg.block b hl (fun e => by have := (hr b e.symm).1; omega)).trans (h3.block b hb hp)

theorem grown_fromP {W w3 : World} {o : Obj} {row : Option Nat} (h : (W.drew.alloc o).grownBy w3 row) : W.grownBy w3 row :=
  ⟨h.os, h.tape, h.output, by have := h.size; simp at this; omega, fun b hb hr => (h.block b (by simp; omega) hr).trans (Deep.blk_alloc_lt _ _ _ hb)⟩

set_option maxRecDepth 100000 in
set_option maxHeartbeats 4000000 in
theorem implPairs (la : Option Addr) (lc : Nat) (ia : Option Addr) (ic : Nat) (xa : Option Addr) (xc : Nat) (d : Dc) (w : World) (hT : Tabs w) (hA : DAt w la ia xa d) (hS : Small d) (hW : WfD d) :
    Calls Tryz.prog 21 #[Dv la lc ia ic xa xc d] w fun e w' => (∃ v, e = .returned v ∧ POwn w' w.heap.size v (prsN d) (lvF d)) ∧ Below w.heap.size w w' := by
  obtain ⟨i0, hi0, hz0, hz1, hz2⟩ := info_parts infoPair
  have hdn := hS.n
  have HA := hide hA
  have HS := hide hS
  have HW := hide hW
  have HT := hide hT
  clear hA hS hW hT
  have hb0 : Below w.heap.size w (w.alloc (.cells #[.slice la d.n lc, .slice ia d.m ic, .slice xa d.x xc, .int .i64 d.used, .int .i64 d.live, .int .i64 d.turns] 26)) := (Below.refl _ _).alloc (Nat.le_refl _) _
  have HB0 := hide hb0
  clear hb0
  refine (callsIn_wide (n := 20)).1 ?_
  refine callsIn_of_wp_marks Tryz.func21 rfl trivial ?_ rfl
  simp only [Tryz.ntmps21, List.size_toArray, List.length_cons, List.length_nil, Nat.reduceAdd, Nat.reduceSub, Array.replicate_succ, Array.replicate_zero, List.push_toArray, List.append_toArray, List.nil_append, List.cons_append]
  gi_wp2_with fail
  refine ⟨trivial, ?_⟩
  refine (callsIn_wide.2 (implOk la lc ia ic xa xc d _ (lastsT _ _ (unhide HT) (unhide HB0)) ((unhide HA).below (unhide HB0)) (unhide HS) (unhide HW))).mono ?_
  rintro e w1 ⟨rfl, hb1⟩
  obtain ⟨hc1, hf1⟩ := bcell hb1
  have hz1' := hb1.size
  simp at hz1'
  have y0 : w.heap.size < w1.heap.size := by omega
  have q0 : w1.cell? ⟨w.heap.size, 0, none⟩ = some (.slice la d.n lc) := by rw [hc1 _ _ (by simp)]; simp [go_sem]
  have q1 : w1.cell? ⟨w.heap.size, 1, none⟩ = some (.slice ia d.m ic) := by rw [hc1 _ _ (by simp)]; simp [go_sem]
  have q2 : w1.cell? ⟨w.heap.size, 2, none⟩ = some (.slice xa d.x xc) := by rw [hc1 _ _ (by simp)]; simp [go_sem]
  have q3 : w1.cell? ⟨w.heap.size, 3, none⟩ = some (.int .i64 d.used) := by rw [hc1 _ _ (by simp)]; simp [go_sem]
  have q4 : w1.cell? ⟨w.heap.size, 4, none⟩ = some (.int .i64 d.live) := by rw [hc1 _ _ (by simp)]; simp [go_sem]
  have q5 : w1.cell? ⟨w.heap.size, 5, none⟩ = some (.int .i64 d.turns) := by rw [hc1 _ _ (by simp)]; simp [go_sem]
  have HB1 := hide ((unhide HB0).trans (hb1.mono (unhide HB0).size))
  clear hb1 hc1 hf1 hz1'
  by_cases hk : dictOk d (hD d) = 0
  case neg =>
    have HR : Hid (prsN d = 0) := hide (if_neg hk)
    have hk' : (dictOk d (hD d) != 0) = true := by simp [hk]
    clear hk
    generalize dictOk d (hD d) = ok at hk'
    gi_wp2
    refine ⟨.slice none 0 0, ?_, ⟨_, rfl, by rw [unhide HR]; exact World.ownsRow_nil _ _ _ _⟩, unhide HB1⟩
    simp [results, Tryz.f21]
  have HR : Hid (prsN d = lvN d) := hide (if_pos hk)
  have HSd := hide (sound_of hk)
  rw [hk]
  clear hk
  have HBs : Hid (∀ o, Below w.heap.size w (w1.alloc o)) := hide (fun o => (unhide HB1).alloc (by omega) _)
  gi_wp2_with fail
  refine ⟨trivial, ?_⟩
  refine (callsIn_wide.2 (openBook_any la lc ia ic xa xc d _ ((unhide HA).below (unhide HBs _)) (unhide HS) (unhide HSd).d3 (unhide HSd).d4)).mono ?_
  rintro e w2 ⟨⟨bk, R0, R1, R2, E, S, rfl, hBk⟩, hb2⟩
  have hz2' := hb2.size
  simp at hz2'
  have yp : w1.heap.size < w2.heap.size := by omega
  have hp2 : w2.rowIs w1.heap.size 23 1 (fun _ => .slice none 0 0) := World.rowIs.of_block (World.rowIs_alloc w1 #[.slice none 0 0] 23 (fun _ => .slice none 0 0) (fun i hi => by
      have : i = 0 := by simpa using hi
      subst this
      rfl)) (hb2.block _ (by simp))
  have HB2 := hide ((unhide HBs _).trans (hb2.mono (unhide HBs _).size))
  have HBk := hide hBk
  have HP2 := hide hp2
  clear hb2 hBk hp2
  gi_wp2_with fail
  refine ⟨trivial, ?_⟩
  refine (callsIn_wide.2 (living_any bk _)).mono ?_
  rintro e w4 ⟨rfl, rfl⟩
  gi_wp2_with fail
  obtain ⟨u, hu⟩ : ∃ u, u = w2.alloc (.cells #[.pointer (some ⟨bk, 0, none⟩)] 77) := ⟨_, rfl⟩
  rw [← hu]
  have zu : u.heap.size = w2.heap.size + 1 := by rw [hu]; simp
  have b2u : Below w2.heap.size w2 u := by rw [hu]; exact (Below.refl _ _).alloc (Nat.le_refl _) _
  have mb0 : u.cell? ⟨w2.heap.size, 0, none⟩ = some (.pointer (some ⟨bk, 0, none⟩)) := by rw [hu]; simp [go_sem]
  clear hu
  have hBu := (unhide HBk).below b2u
  have hpu : u.rowIs w1.heap.size 23 1 (fun _ => .slice none 0 0) := (unhide HP2).of_block (b2u.block _ yp)
  have bwu : Below w.heap.size w u := (unhide HB2).trans (b2u.mono (unhide HB2).size)
  have ypu : w1.heap.size < u.heap.size := by omega
  have c0u : u.cell? ⟨w1.heap.size, 0, none⟩ = some (.slice none 0 0) := hpu.cell (i := 0) (by omega)
  have hRp : 0 < d.n → R0 < u.heap.size ∧ R0 ≠ w1.heap.size := fun h0 => ⟨hBu.l0, fun e => by
    have := hBu.r0 0 h0
    rw [e, c0u] at this
    cases this⟩
  have hEp : ∀ i, i < d.n → E i < u.heap.size ∧ E i ≠ w1.heap.size := fun i hi => ⟨(hBu.ent i hi).lt, fun e => by
    have := (hBu.ent i hi).k0
    rw [e, c0u] at this
    cases this⟩
  have hwu : w.heap.size ≤ u.heap.size := bwu.size
  clear zu HBk b2u q0 q1 q2 q3 q4 q5 c0u
  refine wpIn_rangeFunc_ownF rfl (by decide) (gf := 107) (lb := #[.pointer (some ⟨w2.heap.size, 0, none⟩)]) rfl trivial (enters_of Tryz.func107 (by kernel_rfl) rfl)
    (living_stopsP 19 (by decide) bk R0 R1 R2 w2.heap.size w1.heap.size u.heap.size E S d u hBu (unhide HS) hRp hEp mb0) KpB.trans (KpB.put (Nat.le_refl _)) (Below.refl _ _) (fun _ => rfl)
    (PrI w u w1.heap.size u.heap.size d)
    (fun c pre W => False)
    (PrI.own w u w1.heap.size u.heap.size u.heap.size d (Nat.le_refl _) (Nat.le_refl _) hwu)
    (fun c _ _ _ _ h => h.elim)
    ⟨.slice none 0 0, hpu, World.ownsRow_nil _ _ _ _, KpB.refl _ _ _, bwu⟩
    ?a1 ?assign ?body ?done ?stop
  case assign =>
    intro l x W K hK
    gi_wp2
    exact hK
  case body =>
    rintro l pre ⟨i, hi, ht⟩ W ⟨v, hp, hown, hkp, hbw⟩ hlen
    have hblk := hkp.block (E i) (hEp i hi).1 (hEp i hi).2
    obtain ⟨hel, k0, k1, k2, k3, k4, v0, v1, v2, v3, v4, tn, _, _⟩ := (hBu.ent i hi).keep hkp.size hblk
    have x0 := hp.cell (i := 0) (by omega)
    have fx := hp.frozen 0
    have hpl := hp.lt
    have hln := hown.lt
    have HOW := hide hown
    have HKP := hide hkp
    have HBW := hide hbw
    have HP := hide hp
    have hpre : pre.length ≤ d.n := by omega
    have hWs : u.heap.size ≤ W.heap.size := (unhide HKP).size
    have HOWd : Hid (POwn W.drew u.heap.size v pre.length (preF d pre)) := hide (unhide HOW).drew
    have HSN := hide (preF_snoc d pre ⟨i, hi, ht⟩)
    have HAPP : Hid (∀ (g3 cp3 : Nat) (w3 : World), w3.ownsRow u.heap.size 43 11 (.slice (some ⟨g3, 0, none⟩) (pre.length + 1) cp3) (pre.length + 1) (pL (preF d pre) pre.length ++ prL (d.L i)) → W.grownBy w3 v.ownBlock → (w3.cell? ⟨w1.heap.size, 0, none⟩ = some v ∧ w3.frozen? ⟨w1.heap.size, 0, none⟩ = false) ∧ KeepsOthers W (w3.setCell ⟨w1.heap.size, 0, none⟩ (.slice (some ⟨g3, 0, none⟩) (pre.length + 1) cp3)) ∧ KpB w1.heap.size u.heap.size W (w3.setCell ⟨w1.heap.size, 0, none⟩ (.slice (some ⟨g3, 0, none⟩) (pre.length + 1) cp3)) ∧
        PrI w u w1.heap.size u.heap.size d (pre ++ [⟨i, hi, ht⟩]) (w3.setCell ⟨w1.heap.size, 0, none⟩ (.slice (some ⟨g3, 0, none⟩) (pre.length + 1) cp3))) := hide (fun g3 cp3 w3 h1 h2 => by
      have hp1 : w3.rowIs w1.heap.size 23 1 (fun _ => v) := (unhide HP).of_block (h2.block _ hpl (fun e => by have := ((unhide HOW).lt _ e.symm).1; omega))
      have hg3 := (World.ownsRow.lt h1 g3 rfl).1
      have hkp : KpB w1.heap.size u.heap.size W (w3.setCell ⟨w1.heap.size, 0, none⟩ (.slice (some ⟨g3, 0, none⟩) (pre.length + 1) cp3)) := ⟨by simpa using h2.size, fun b h1 h2' => (Deep.blk_setCell_other _ _ _ _ (by exact h2')).trans (h2.block b (by omega) (fun e => by have := ((unhide HOW).lt _ e.symm).1; omega))⟩
      have hko : KeepsOthers W w3 := ⟨h2.size, fun k o hk hc => (h2.block k (Array.getElem?_eq_some_iff.1 hk).1 (fun e => by
        obtain ⟨_, ⟨hv, _⟩ | ⟨g, cap, cur, hv, hb, hblk, _⟩⟩ := unhide HOW
        · rw [hv] at e; cases e
        · rw [hv] at e
          have e' : k = g := by simpa [Value.ownBlock] using e
          rw [e', hblk] at hk
          cases hk
          cases hc)).trans hk⟩
      refine ⟨⟨hp1.cell (i := 0) (by omega), hp1.frozen 0⟩, hko.trans (KeepsOthers.setCell _ _ _), hkp, .slice (some ⟨g3, 0, none⟩) (pre.length + 1) cp3, (hp1.set 0 _).congr (fun q hq => by simp [show q = 0 by omega]), ?_, (unhide HKP).trans hkp, ?_⟩
      · have hl : (pre ++ [⟨i, hi, ht⟩] : List (Liv d)).length = pre.length + 1 := by simp
        rw [hl]
        refine World.ownsRow.kept (w := w3) ?_ (grown_setCell w3 _ _) (.inr (by simp [Value.ownBlock]; omega))
        rw [unhide HSN] at h1
        exact h1
      · exact ((unhide HBW).grown h2 (unhide HBW).size (fun k e => by have := ((unhide HOW).lt _ e).1; omega)).setCell (by show w.heap.size ≤ w1.heap.size; omega) _)
    clear hblk hown hkp hbw hp mb0
    gi_wp2
    refine wpIn_region_any (by kernel_rfl) ?_
    change wpAnyIn _ _ _ _ _ _ _ _ _ (World.drew _)
    refine wpAnyIn_ready (rs := [0, 1]) (by kernel_rfl) (by simp) ?_
    refine AllReadyIn.cons rfl (fun K hK => ?_) (AllReadyIn.cons rfl (fun K hK => ?_) AllReadyIn.nil)
    · go_simp
      refine hK _ _ ?_
      clear hK K
      refine wpAnyIn_ready (rs := [1]) (by kernel_rfl) (by simp) ?_
      refine AllReadyIn.cons rfl (fun K hK => ?_) AllReadyIn.nil
      go_simp
      refine hK _ _ ?_
      clear hK K
      refine wpAnyIn_ready (rs := [2]) (by kernel_rfl) (by simp) ?_
      refine AllReadyIn.cons rfl (fun K hK => ?_) AllReadyIn.nil
      go_simp
      refine hK _ _ ?_
      clear hK K
      refine wpAnyIn_ready (rs := [3]) (by kernel_rfl) (by simp) ?_
      refine AllReadyIn.cons rfl (fun K hK => ?_) AllReadyIn.nil
      go_simp
      refine hK _ _ ?_
      clear hK K
      refine wpAnyIn_ready (rs := [4]) (by kernel_rfl) (by simp) ?_
      refine AllReadyIn.cons rfl (fun K hK => ?_) AllReadyIn.nil
      go_simp
      refine hK _ _ ?_
      clear hK K
      refine wpAnyIn_ready (rs := [5]) (by kernel_rfl) (by simp) ?_
      refine AllReadyIn.cons rfl (fun K hK => ?_) AllReadyIn.nil
      go_simp
      refine hK _ _ ?_
      clear hK K
      refine wpAnyIn_ready (rs := [6]) (by kernel_rfl) (by simp) ?_
      refine AllReadyIn.cons rfl (fun K hK => ?_) AllReadyIn.nil
      rw [if_pos (by rfl)]
      refine wpIn_append_lies _ (.tmp 12) (.tmp 17) 23 rfl u.heap.size 43 i0 PZ 11 104 Tryz.underlying23 hi0 hz0 hz1 hz2 rfl (by decide) v pre.length (pL (preF d pre) pre.length) (by simp [Act.eval]) ((unhide HOWd).alloc _) ⟨W.heap.size, 0, none⟩ 1 1 (prL (d.L i)) (by simp [Act.eval]) rfl (World.news_of_block (Deep.blk_alloc_new _ _)) (prL_one _) (by decide) (by unfold maxLen; omega) (by omega) (by simp; omega) _ rfl ?_
      intro g3 cp3 w3 hown3 hgr3 hloc3 hlt3
      obtain ⟨⟨x3, f3⟩, HN3⟩ := unhide HAPP g3 cp3 w3 hown3 (grown_fromP hgr3)
      clear hown3 hgr3 hloc3
      refine hK _ _ ?_
      clear hK K
      refine wpAnyIn_ready (rs := [7]) (by kernel_rfl) (by simp) ?_
      refine AllReadyIn.cons rfl (fun K hK => ?_) AllReadyIn.nil
      go_simp
      refine hK _ _ ?_
      clear hK K
      refine wpAnyIn_done (by kernel_rfl) ?_ _
      gi_wp2
      exact HN3
    · go_simp
      refine hK _ _ ?_
      clear hK K
      refine wpAnyIn_ready (rs := [0, 2]) (by kernel_rfl) (by simp) ?_
      refine AllReadyIn.cons rfl (fun K hK => ?_) (AllReadyIn.cons rfl (fun K hK => ?_) AllReadyIn.nil)
      · go_simp
        refine hK _ _ ?_
        clear hK K
        refine wpAnyIn_ready (rs := [2]) (by kernel_rfl) (by simp) ?_
        refine AllReadyIn.cons rfl (fun K hK => ?_) AllReadyIn.nil
        go_simp
        refine hK _ _ ?_
        clear hK K
        refine wpAnyIn_ready (rs := [3]) (by kernel_rfl) (by simp) ?_
        refine AllReadyIn.cons rfl (fun K hK => ?_) AllReadyIn.nil
        go_simp
        refine hK _ _ ?_
        clear hK K
        refine wpAnyIn_ready (rs := [4]) (by kernel_rfl) (by simp) ?_
        refine AllReadyIn.cons rfl (fun K hK => ?_) AllReadyIn.nil
        go_simp
        refine hK _ _ ?_
        clear hK K
        refine wpAnyIn_ready (rs := [5]) (by kernel_rfl) (by simp) ?_
        refine AllReadyIn.cons rfl (fun K hK => ?_) AllReadyIn.nil
        go_simp
        refine hK _ _ ?_
        clear hK K
        refine wpAnyIn_ready (rs := [6]) (by kernel_rfl) (by simp) ?_
        refine AllReadyIn.cons rfl (fun K hK => ?_) AllReadyIn.nil
        rw [if_pos (by rfl)]
        refine wpIn_append_lies _ (.tmp 12) (.tmp 17) 23 rfl u.heap.size 43 i0 PZ 11 104 Tryz.underlying23 hi0 hz0 hz1 hz2 rfl (by decide) v pre.length (pL (preF d pre) pre.length) (by simp [Act.eval]) ((unhide HOWd).alloc _) ⟨W.heap.size, 0, none⟩ 1 1 (prL (d.L i)) (by simp [Act.eval]) rfl (World.news_of_block (Deep.blk_alloc_new _ _)) (prL_one _) (by decide) (by unfold maxLen; omega) (by omega) (by simp; omega) _ rfl ?_
        intro g3 cp3 w3 hown3 hgr3 hloc3 hlt3
        obtain ⟨⟨x3, f3⟩, HN3⟩ := unhide HAPP g3 cp3 w3 hown3 (grown_fromP hgr3)
        clear hown3 hgr3 hloc3
        refine hK _ _ ?_
        clear hK K
        refine wpAnyIn_ready (rs := [7]) (by kernel_rfl) (by simp) ?_
        refine AllReadyIn.cons rfl (fun K hK => ?_) AllReadyIn.nil
        go_simp
        refine hK _ _ ?_
        clear hK K
        refine wpAnyIn_done (by kernel_rfl) ?_ _
        gi_wp2
        exact HN3
      · go_simp
        refine hK _ _ ?_
        clear hK K
        refine wpAnyIn_ready (rs := [0, 3]) (by kernel_rfl) (by simp) ?_
        refine AllReadyIn.cons rfl (fun K hK => ?_) (AllReadyIn.cons rfl (fun K hK => ?_) AllReadyIn.nil)
        · go_simp
          refine hK _ _ ?_
          clear hK K
          refine wpAnyIn_ready (rs := [3]) (by kernel_rfl) (by simp) ?_
          refine AllReadyIn.cons rfl (fun K hK => ?_) AllReadyIn.nil
          go_simp
          refine hK _ _ ?_
          clear hK K
          refine wpAnyIn_ready (rs := [4]) (by kernel_rfl) (by simp) ?_
          refine AllReadyIn.cons rfl (fun K hK => ?_) AllReadyIn.nil
          go_simp
          refine hK _ _ ?_
          clear hK K
          refine wpAnyIn_ready (rs := [5]) (by kernel_rfl) (by simp) ?_
          refine AllReadyIn.cons rfl (fun K hK => ?_) AllReadyIn.nil
          go_simp
          refine hK _ _ ?_
          clear hK K
          refine wpAnyIn_ready (rs := [6]) (by kernel_rfl) (by simp) ?_
          refine AllReadyIn.cons rfl (fun K hK => ?_) AllReadyIn.nil
          rw [if_pos (by rfl)]
          refine wpIn_append_lies _ (.tmp 12) (.tmp 17) 23 rfl u.heap.size 43 i0 PZ 11 104 Tryz.underlying23 hi0 hz0 hz1 hz2 rfl (by decide) v pre.length (pL (preF d pre) pre.length) (by simp [Act.eval]) ((unhide HOWd).alloc _) ⟨W.heap.size, 0, none⟩ 1 1 (prL (d.L i)) (by simp [Act.eval]) rfl (World.news_of_block (Deep.blk_alloc_new _ _)) (prL_one _) (by decide) (by unfold maxLen; omega) (by omega) (by simp; omega) _ rfl ?_
          intro g3 cp3 w3 hown3 hgr3 hloc3 hlt3
          obtain ⟨⟨x3, f3⟩, HN3⟩ := unhide HAPP g3 cp3 w3 hown3 (grown_fromP hgr3)
          clear hown3 hgr3 hloc3
          refine hK _ _ ?_
          clear hK K
          refine wpAnyIn_ready (rs := [7]) (by kernel_rfl) (by simp) ?_
          refine AllReadyIn.cons rfl (fun K hK => ?_) AllReadyIn.nil
          go_simp
          refine hK _ _ ?_
          clear hK K
          refine wpAnyIn_done (by kernel_rfl) ?_ _
          gi_wp2
          exact HN3
        · go_simp
          refine hK _ _ ?_
          clear hK K
          refine wpAnyIn_ready (rs := [0, 4]) (by kernel_rfl) (by simp) ?_
          refine AllReadyIn.cons rfl (fun K hK => ?_) (AllReadyIn.cons rfl (fun K hK => ?_) AllReadyIn.nil)
          · go_simp
            refine hK _ _ ?_
            clear hK K
            refine wpAnyIn_ready (rs := [4]) (by kernel_rfl) (by simp) ?_
            refine AllReadyIn.cons rfl (fun K hK => ?_) AllReadyIn.nil
            go_simp
            refine hK _ _ ?_
            clear hK K
            refine wpAnyIn_ready (rs := [5]) (by kernel_rfl) (by simp) ?_
            refine AllReadyIn.cons rfl (fun K hK => ?_) AllReadyIn.nil
            go_simp
            refine hK _ _ ?_
            clear hK K
            refine wpAnyIn_ready (rs := [6]) (by kernel_rfl) (by simp) ?_
            refine AllReadyIn.cons rfl (fun K hK => ?_) AllReadyIn.nil
            rw [if_pos (by rfl)]
            refine wpIn_append_lies _ (.tmp 12) (.tmp 17) 23 rfl u.heap.size 43 i0 PZ 11 104 Tryz.underlying23 hi0 hz0 hz1 hz2 rfl (by decide) v pre.length (pL (preF d pre) pre.length) (by simp [Act.eval]) ((unhide HOWd).alloc _) ⟨W.heap.size, 0, none⟩ 1 1 (prL (d.L i)) (by simp [Act.eval]) rfl (World.news_of_block (Deep.blk_alloc_new _ _)) (prL_one _) (by decide) (by unfold maxLen; omega) (by omega) (by simp; omega) _ rfl ?_
            intro g3 cp3 w3 hown3 hgr3 hloc3 hlt3
            obtain ⟨⟨x3, f3⟩, HN3⟩ := unhide HAPP g3 cp3 w3 hown3 (grown_fromP hgr3)
            clear hown3 hgr3 hloc3
            refine hK _ _ ?_
            clear hK K
            refine wpAnyIn_ready (rs := [7]) (by kernel_rfl) (by simp) ?_
            refine AllReadyIn.cons rfl (fun K hK => ?_) AllReadyIn.nil
            go_simp
            refine hK _ _ ?_
            clear hK K
            refine wpAnyIn_done (by kernel_rfl) ?_ _
            gi_wp2
            exact HN3
          · go_simp
            refine hK _ _ ?_
            clear hK K
            refine wpAnyIn_ready (rs := [0, 5]) (by kernel_rfl) (by simp) ?_
            refine AllReadyIn.cons rfl (fun K hK => ?_) (AllReadyIn.cons rfl (fun K hK => ?_) AllReadyIn.nil)
            · go_simp
              refine hK _ _ ?_
              clear hK K
              refine wpAnyIn_ready (rs := [5]) (by kernel_rfl) (by simp) ?_
              refine AllReadyIn.cons rfl (fun K hK => ?_) AllReadyIn.nil
              go_simp
              refine hK _ _ ?_
              clear hK K
              refine wpAnyIn_ready (rs := [6]) (by kernel_rfl) (by simp) ?_
              refine AllReadyIn.cons rfl (fun K hK => ?_) AllReadyIn.nil
              rw [if_pos (by rfl)]
              refine wpIn_append_lies _ (.tmp 12) (.tmp 17) 23 rfl u.heap.size 43 i0 PZ 11 104 Tryz.underlying23 hi0 hz0 hz1 hz2 rfl (by decide) v pre.length (pL (preF d pre) pre.length) (by simp [Act.eval]) ((unhide HOWd).alloc _) ⟨W.heap.size, 0, none⟩ 1 1 (prL (d.L i)) (by simp [Act.eval]) rfl (World.news_of_block (Deep.blk_alloc_new _ _)) (prL_one _) (by decide) (by unfold maxLen; omega) (by omega) (by simp; omega) _ rfl ?_
              intro g3 cp3 w3 hown3 hgr3 hloc3 hlt3
              obtain ⟨⟨x3, f3⟩, HN3⟩ := unhide HAPP g3 cp3 w3 hown3 (grown_fromP hgr3)
              clear hown3 hgr3 hloc3
              refine hK _ _ ?_
              clear hK K
              refine wpAnyIn_ready (rs := [7]) (by kernel_rfl) (by simp) ?_
              refine AllReadyIn.cons rfl (fun K hK => ?_) AllReadyIn.nil
              go_simp
              refine hK _ _ ?_
              clear hK K
              refine wpAnyIn_done (by kernel_rfl) ?_ _
              gi_wp2
              exact HN3
            · go_simp
              refine hK _ _ ?_
              clear hK K
              refine wpAnyIn_ready (rs := [0]) (by kernel_rfl) (by simp) ?_
              refine AllReadyIn.cons rfl (fun K hK => ?_) AllReadyIn.nil
              go_simp
              refine hK _ _ ?_
              clear hK K
              refine wpAnyIn_ready (rs := [6]) (by kernel_rfl) (by simp) ?_
              refine AllReadyIn.cons rfl (fun K hK => ?_) AllReadyIn.nil
              rw [if_pos (by rfl)]
              refine wpIn_append_lies _ (.tmp 12) (.tmp 17) 23 rfl u.heap.size 43 i0 PZ 11 104 Tryz.underlying23 hi0 hz0 hz1 hz2 rfl (by decide) v pre.length (pL (preF d pre) pre.length) (by simp [Act.eval]) ((unhide HOWd).alloc _) ⟨W.heap.size, 0, none⟩ 1 1 (prL (d.L i)) (by simp [Act.eval]) rfl (World.news_of_block (Deep.blk_alloc_new _ _)) (prL_one _) (by decide) (by unfold maxLen; omega) (by omega) (by simp; omega) _ rfl ?_
              intro g3 cp3 w3 hown3 hgr3 hloc3 hlt3
              obtain ⟨⟨x3, f3⟩, HN3⟩ := unhide HAPP g3 cp3 w3 hown3 (grown_fromP hgr3)
              clear hown3 hgr3 hloc3
              refine hK _ _ ?_
              clear hK K
              refine wpAnyIn_ready (rs := [7]) (by kernel_rfl) (by simp) ?_
              refine AllReadyIn.cons rfl (fun K hK => ?_) AllReadyIn.nil
              go_simp
              refine hK _ _ ?_
              clear hK K
              refine wpAnyIn_done (by kernel_rfl) ?_ _
              gi_wp2
              exact HN3
  case done =>
    rintro D ys W hD hlv ⟨v, hp, hown, hkp, hbw⟩ hK
    have hlv' : ys.map (·.1) = livL d d.n := hlv
    have hlen : ys.length = lvN d := by have := congrArg List.length hlv'; rwa [List.length_map] at this
    have hpre := preF_all hlv'
    rw [hlen, hpre] at hown
    have x0 := hp.cell (i := 0) (by omega)
    have HOW := hide hown
    have HBW := hide hbw
    have hpl := hp.lt
    clear hlv hlv' hlen hpre hp hown hkp hbw
    gi_wp2
    refine ⟨by simp, .inl ⟨_, _, rfl, run_takeDeferred hK, ?_⟩⟩
    refine ⟨v, ?_, ⟨v, rfl, ?_⟩, (unhide HBW).trans (belowK_b (w := w) (Nat.le_refl _) W D _ _ (by omega) hK rfl rfl)⟩
    · simp [results, Tryz.f21]
    · rw [unhide HR]
      exact own_mono (own_keptO (D := D) (unhide HOW) (grownBy_putObj' W D (.deferred none)) (fun r e => by cases e; exact ⟨Nat.le_refl _, _, hK, rfl⟩)) hwu
  case stop =>
    rintro D c pre W hD hpre h hK
    exact h.elim
end Go.Proofs.YtglcaejddckleaaGreatDoor

namespace Go.Proofs.YtglcaejddckleaaGreatDoor
open Go.RowKit
set_option linter.unusedVariables false

/-- The mark of k. -/
def mark (k : Nat) : ByteArray := ⟨(109 :: Lib.decDigits k).toArray⟩

def digs (u : Nat) : List UInt8 := if u = 0 then [] else Lib.decDigits u

theorem digs_step {u : Nat} (h : 0 < u) : digs u = digs (u / 10) ++ [dig u] := by
  unfold digs
  rw [if_neg (by omega)]
  by_cases h10 : u < 10
  · rw [digits_small h10, if_pos (by omega)]
    unfold dig
    rw [Nat.mod_eq_of_lt h10]; rfl
  · rw [digits_big h10, if_neg (by omega)]; rfl

set_option maxRecDepth 100000 in
set_option maxHeartbeats 1000000 in
theorem markText_any (k : Nat) (hk : k < 9007199254740992) (w : World) :
    Calls Tryz.prog 87 #[.int .i64 (k : Int)] w fun e w' => e = .returned (.string (mark k)) ∧ Below w.heap.size w w' := by
  by_cases h0 : k = 0
  · subst h0
    go_enter Tryz.func87, Tryz.ntmps87
    go_wp2
    go_ret
    exact ⟨ret_str (by unfold mark; rw [digits_small (by omega)]; rfl), Below.refl _ _⟩
  have hl := digits_len k (by omega)
  have HE : Hid (Lib.decDigits k = digs k) := hide (by unfold digs; rw [if_neg h0])
  have hk0 : 0 < k := by omega
  go_enter Tryz.func87, Tryz.ntmps87
  go_wp2
  go_loopw [0, 3] (fun a o wr => ∃ (u : Nat) (l : List UInt8), u ≤ k ∧ a = .int .i64 (u : Int) ∧ o = .string ⟨l.toArray⟩ ∧ Lib.decDigits k = digs u ++ l ∧ Below w.heap.size w wr) (fun a _ _ => (intOf a).toNat)
  case atStart => exact ⟨k, [], Nat.le_refl _, rfl, rfl, by rw [unhide HE]; simp, Below.refl _ _⟩
  case round =>
    obtain ⟨u, l, hu, rfl, rfl, hd, hb⟩ := hrel
    have HD : Hid (Lib.decDigits k = digs u ++ l) := hd
    have hll : l.length ≤ 21 := by have := congrArg List.length hd; rw [List.length_append] at this; omega
    clear hd
    have hcv := conv_digit u wr
    go_wp2
    · have hu0 : 0 < u := by assumption
      go_roundw
      case rel =>
        refine ⟨u / 10, dig u :: l, by omega, by go_num, ?_, ?_, hb.alloc hb.size _⟩
        · rw [ba_append]; rfl
        · rw [HD.out, digs_step hu0, List.append_assoc]; rfl
      case measure => simp [intOf]; omega
    · have hu0 : u = 0 := by omega
      subst hu0
      go_ret
      refine ⟨ret_str ?_, hb⟩
      unfold mark
      rw [HD.out]
      apply ByteArray.ext
      simp [digs]
end Go.Proofs.YtglcaejddckleaaGreatDoor

namespace Go.Proofs.YtglcaejddckleaaGreatDoor
open Go.RowKit
set_option linter.unusedVariables false
attribute [local go_sem] run_store_float run_equalIn_float

/-- All but one block lie as they lay. -/
structure Bt (b : Nat) (w w' : World) : Prop where
  os : w'.os = w.os
  tape : w'.tape = w.tape
  output : w'.output = w.output
  size : w.heap.size ≤ w'.heap.size
  block : ∀ k, k < w.heap.size → k ≠ b → w'.heap[k]? = w.heap[k]?
theorem Bt.refl (b : Nat) (w : World) : Bt b w w := ⟨rfl, rfl, rfl, Nat.le_refl _, fun _ _ _ => rfl⟩
theorem Bt.trans {b : Nat} {u v w : World} (h : Bt b u v) (k : Bt b v w) : Bt b u w :=
  ⟨k.os.trans h.os, k.tape.trans h.tape, k.output.trans h.output, Nat.le_trans h.size k.size, fun i hi hn => (k.block i (Nat.lt_of_lt_of_le hi h.size) hn).trans (h.block i hi hn)⟩
theorem Bt.of {b : Nat} {w w' : World} (h : Below w.heap.size w w') : Bt b w w' := ⟨h.os, h.tape, h.output, h.size, fun k hk _ => h.block k hk⟩
theorem Bt.set (b o : Nat) (w : World) (v : Value) : Bt b w (w.setCell ⟨b, o, none⟩ v) := ⟨rfl, rfl, rfl, by simp [World.setCell], fun k _ hn => Deep.blk_setCell_other _ _ _ _ (by exact hn)⟩
theorem Bt.below {b B : Nat} {w w' : World} (h : Bt b w w') (hb : B ≤ b) (hB : B ≤ w.heap.size) : Below B w w' := ⟨h.os, h.tape, h.output, h.size, fun k hk => h.block k (by omega) (by omega)⟩

set_option maxRecDepth 100000 in
set_option maxHeartbeats 2000000 in
theorem markIntS_any (b n cap N s : Nat) (g : Nat → Value) (w : World) (hA : w.rowIs b 3 N g) (hN : n ≤ N) (hn : n ≤ 4194304) (hs : s ≤ 100000000) :
    Calls Tryz.prog 82 #[.slice (some ⟨b, 0, none⟩) n cap, .int .i64 (s : Int)] w fun e w' => (e = .returned (.int .i64 ((s + n : Nat) : Int)) ∧ ∃ g', w'.rowIs b 3 N g' ∧ ∀ j, j < n → g' j = .int .i64 ((s + j : Nat) : Int)) ∧ Bt b w w' := by
  have HA := hide hA
  clear hA
  go_enter Tryz.func82, Tryz.ntmps82
  go_wp2
  go_loopw [1, 5] (fun q i wr => ∃ (k : Nat) (g : Nat → Value), k ≤ n ∧ i = .int .i64 (k : Int) ∧ q = .int .i64 ((s + k : Nat) : Int) ∧ Bt b w wr ∧ wr.rowIs b 3 N g ∧ ∀ j, j < k → g j = .int .i64 ((s + j : Nat) : Int)) (fun _ i _ => n - (intOf i).toNat)
  case atStart => exact ⟨0, g, by omega, rfl, rfl, Bt.refl _ _, unhide HA, fun j hj => by omega⟩
  case round =>
    obtain ⟨k, g, hk, rfl, rfl, hb, hr, hg⟩ := hrel
    by_cases hkn : k < n
    · have d0 := hr.cell (i := k) (by omega)
      have e0 := hr.frozen k
      have hlr := hr.lt
      have HB := hide hb
      have HR := hide hr
      have HG := hide hg
      clear hb hr hg
      go_wp2
      go_roundw
      case rel =>
        refine ⟨k + 1, _, by omega, by go_num, by go_num, (unhide HB).trans (Bt.set b _ _ _), (unhide HR).set k (.int .i64 ((s + k : Nat) : Int)), fun j hj => ?_⟩
        by_cases e : j = k
        · subst e; simp
        · simp only [e, if_false]; exact unhide HG j (by omega)
      case measure => simp [intOf]; omega
    · have hkn' : k = n := by omega
      subst hkn'
      have HB := hide hb
      have HR := hide (And.intro hr hg)
      clear hb hr hg
      go_wp2
      go_ret
      exact ⟨⟨rfl, _, (unhide HR).1, (unhide HR).2⟩, unhide HB⟩
end Go.Proofs.YtglcaejddckleaaGreatDoor

namespace Go.Proofs.YtglcaejddckleaaGreatDoor
open Go.RowKit
set_option linter.unusedVariables false
attribute [local go_sem] run_store_float run_equalIn_float

theorem fself (k : Int) (h0 : 0 ≤ k) (hk : k < 9007199254740992) : (FloatKind.f64.format.order (floatOfInt .f64 k) (floatOfInt .f64 k) != some .eq) = false := by
  obtain ⟨q, l, hr, hl, hv⟩ := Fl.nearest_whole (decide (k < 0)) k.natAbs (Fl.fits_small (by omega))
  have hx : Ieee.double.read (floatOfInt .f64 k) = .number (decide (k < 0)) q l := hr
  show (!(Ieee.double.order _ _ == some .eq)) = false
  rw [Fl.ord_of hx hx hl hl, Fl.cmp_eq]; simp

/-- What a marked pair is. -/
def mkP (s i : Nat) : Pr :=
  ⟨⟨(s : Int) + 11 * i, (s : Int) + 11 * i + 1, floatOfInt .f64 ((s : Int) + 11 * i + 1 + 1), mark (s + 11 * i + 3), (s : Int) + 11 * i + 1 + 1 + 1 + 1⟩,
   ⟨(s : Int) + 11 * i + 1 + 1 + 1 + 1 + 1, (s : Int) + 11 * i + 1 + 1 + 1 + 1 + 1 + 1, floatOfInt .f64 ((s : Int) + 11 * i + 1 + 1 + 1 + 1 + 1 + 1 + 1), mark (s + 11 * i + 8), (s : Int) + 11 * i + 1 + 1 + 1 + 1 + 1 + 1 + 1 + 1 + 1⟩, (s : Int) + 11 * i + 1 + 1 + 1 + 1 + 1 + 1 + 1 + 1 + 1 + 1⟩
/-- A cell of a row of pairs. -/
def pcell (f : Nat → Pr) (j : Nat) : Value := ((prL (f (j / 11)))[j % 11]?).getD undef
theorem pcell_at (f : Nat → Pr) (k i : Nat) (hi : i < 11) : pcell f (k * 11 + i) = ((prL (f k))[i]?).getD undef := by
  unfold pcell
  rw [show (k * 11 + i) / 11 = k by omega, show (k * 11 + i) % 11 = i by omega]
theorem pcells {w : World} {b N n : Nat} {g : Nat → Value} {f : Nat → Pr} (h : w.rowIs b 43 N g) (hN : n * 11 ≤ N) (hg : ∀ j, j < n * 11 → g j = pcell f j) {i : Nat} (hi : i < n) : PCell w b (i * 11) (f i) := by
  have e : ∀ j, j < 11 → w.cell? ⟨b, i * 11 + j, none⟩ = some (((prL (f i))[j]?).getD undef) := fun j hj => by
    rw [h.cell (i := i * 11 + j) (by omega), hg _ (by omega), pcell_at f i j hj]
  exact ⟨e 0 (by omega), e 1 (by omega), e 2 (by omega), e 3 (by omega), e 4 (by omega), e 5 (by omega), e 6 (by omega), e 7 (by omega), e 8 (by omega), e 9 (by omega), e 10 (by omega)⟩

set_option maxRecDepth 100000 in
set_option maxHeartbeats 4000000 in
theorem markPairS_any (b n cap N s : Nat) (g : Nat → Value) (w : World) (hA : w.rowIs b 43 N g) (hN : n * 11 ≤ N) (hn : n ≤ 4194304) (hs : s ≤ 100000000) :
    Calls Tryz.prog 42 #[.slice (some ⟨b, 0, none⟩) n cap, .int .i64 (s : Int)] w fun e w' => (e = .returned (.int .i64 ((s : Int) + 11 * (n : Int))) ∧ ∃ g', w'.rowIs b 43 N g' ∧ ∀ j, j < n * 11 → g' j = pcell (mkP s) j) ∧ Bt b w w' := by
  have HA := hide hA
  clear hA
  go_enter Tryz.func42, Tryz.ntmps42
  go_wp2
  go_loopw [1, 5] (fun q i wr => ∃ (k : Nat) (g : Nat → Value), k ≤ n ∧ i = .int .i64 (k : Int) ∧ q = .int .i64 ((s : Int) + 11 * (k : Int)) ∧ Bt b w wr ∧ wr.rowIs b 43 N g ∧ ∀ j, j < k * 11 → g j = pcell (mkP s) j) (fun _ i _ => n - (intOf i).toNat)
  case atStart => exact ⟨0, g, by omega, rfl, by simp, Bt.refl _ _, unhide HA, fun j hj => by omega⟩
  case round =>
    obtain ⟨k, g, hk, rfl, rfl, hb, hr, hg⟩ := hrel
    by_cases hkn : k < n
    · have hlr := hr.lt
      have d0 := hr.cell (i := k * 11) (by omega)
      have e0 := hr.frozen (k * 11)
      have d1 := hr.cell (i := k * 11 + 1) (by omega)
      have e1 := hr.frozen (k * 11 + 1)
      have d2 := hr.cell (i := k * 11 + 2) (by omega)
      have e2 := hr.frozen (k * 11 + 2)
      have d3 := hr.cell (i := k * 11 + 3) (by omega)
      have e3 := hr.frozen (k * 11 + 3)
      have d4 := hr.cell (i := k * 11 + 4) (by omega)
      have e4 := hr.frozen (k * 11 + 4)
      have d5 := hr.cell (i := k * 11 + 5) (by omega)
      have e5 := hr.frozen (k * 11 + 5)
      have d6 := hr.cell (i := k * 11 + 6) (by omega)
      have e6 := hr.frozen (k * 11 + 6)
      have d7 := hr.cell (i := k * 11 + 7) (by omega)
      have e7 := hr.frozen (k * 11 + 7)
      have d8 := hr.cell (i := k * 11 + 8) (by omega)
      have e8 := hr.frozen (k * 11 + 8)
      have d9 := hr.cell (i := k * 11 + 9) (by omega)
      have e9 := hr.frozen (k * 11 + 9)
      have d10 := hr.cell (i := k * 11 + 10) (by omega)
      have e10 := hr.frozen (k * 11 + 10)
      have hm3 : ∀ w : World, _ := fun w => markText_any (s + 11 * k + 3) (by omega) w
      have hm8 : ∀ w : World, _ := fun w => markText_any (s + 11 * k + 8) (by omega) w
      rw [show ((s + 11 * k + 3 : Nat) : Int) = (s : Int) + 11 * (k : Int) + 1 + 1 + 1 by omega] at hm3
      rw [show ((s + 11 * k + 8 : Nat) : Int) = (s : Int) + 11 * (k : Int) + 1 + 1 + 1 + 1 + 1 + 1 + 1 + 1 by omega] at hm8
      have H3 := hide hm3
      have H8 := hide hm8
      have HB := hide hb
      have HR := hide hr
      have HG := hide hg
      clear hb hr hg hm3 hm8
      go_wp2_with fail
      refine (unhide H3 _).mono ?_
      rintro e w1 ⟨rfl, hb1⟩
      have hr1 := ((((unhide HR).set (k * 11) (.int .i64 ((s : Int) + 11 * (k : Int)))).set (k * 11 + 1) (.int .i64 ((s : Int) + 11 * (k : Int) + 1))).set (k * 11 + 2) (.float .f64 (floatOfInt .f64 ((s : Int) + 11 * (k : Int) + 1 + 1)))).of_block (hb1.block b (by simpa using hlr))
      have hl1 := hr1.lt
      have HB1 := hide ((((((unhide HB).trans (Bt.set b (k * 11) _ (.int .i64 ((s : Int) + 11 * (k : Int))))).trans (Bt.set b (k * 11 + 1) _ (.int .i64 ((s : Int) + 11 * (k : Int) + 1)))).trans (Bt.set b (k * 11 + 2) _ (.float .f64 (floatOfInt .f64 ((s : Int) + 11 * (k : Int) + 1 + 1)))))).trans (Bt.of hb1))
      have HR1 := hide hr1
      clear hb1 d0 e0 d1 e1 d2 e2 d3 e3 d4 e4 d5 e5 d6 e6 d7 e7 d8 e8 d9 e9 d10 e10
      have d3 := hr1.cell (i := k * 11 + 3) (by omega)
      have e3 := hr1.frozen (k * 11 + 3)
      have d4 := hr1.cell (i := k * 11 + 4) (by omega)
      have e4 := hr1.frozen (k * 11 + 4)
      have d5 := hr1.cell (i := k * 11 + 5) (by omega)
      have e5 := hr1.frozen (k * 11 + 5)
      have d6 := hr1.cell (i := k * 11 + 6) (by omega)
      have e6 := hr1.frozen (k * 11 + 6)
      have d7 := hr1.cell (i := k * 11 + 7) (by omega)
      have e7 := hr1.frozen (k * 11 + 7)
      have d8 := hr1.cell (i := k * 11 + 8) (by omega)
      have e8 := hr1.frozen (k * 11 + 8)
      have d9 := hr1.cell (i := k * 11 + 9) (by omega)
      have e9 := hr1.frozen (k * 11 + 9)
      have d10 := hr1.cell (i := k * 11 + 10) (by omega)
      have e10 := hr1.frozen (k * 11 + 10)
      clear hr1
      go_wp2_with fail
      refine (unhide H8 _).mono ?_
      rintro e w2 ⟨rfl, hb2⟩
      have hr2 := ((((((unhide HR1).set (k * 11 + 3) (.string (mark (s + 11 * k + 3)))).set (k * 11 + 4) (.int .i64 ((s : Int) + 11 * (k : Int) + 1 + 1 + 1 + 1))).set (k * 11 + 5) (.int .i64 ((s : Int) + 11 * (k : Int) + 1 + 1 + 1 + 1 + 1))).set (k * 11 + 6) (.int .i64 ((s : Int) + 11 * (k : Int) + 1 + 1 + 1 + 1 + 1 + 1))).set (k * 11 + 7) (.float .f64 (floatOfInt .f64 ((s : Int) + 11 * (k : Int) + 1 + 1 + 1 + 1 + 1 + 1 + 1)))).of_block (hb2.block b (by simpa using hl1))
      have hl2 := hr2.lt
      have HB2 := hide ((((((((unhide HB1).trans (Bt.set b (k * 11 + 3) _ (.string (mark (s + 11 * k + 3))))).trans (Bt.set b (k * 11 + 4) _ (.int .i64 ((s : Int) + 11 * (k : Int) + 1 + 1 + 1 + 1)))).trans (Bt.set b (k * 11 + 5) _ (.int .i64 ((s : Int) + 11 * (k : Int) + 1 + 1 + 1 + 1 + 1)))).trans (Bt.set b (k * 11 + 6) _ (.int .i64 ((s : Int) + 11 * (k : Int) + 1 + 1 + 1 + 1 + 1 + 1)))).trans (Bt.set b (k * 11 + 7) _ (.float .f64 (floatOfInt .f64 ((s : Int) + 11 * (k : Int) + 1 + 1 + 1 + 1 + 1 + 1 + 1)))))).trans (Bt.of hb2))
      have HR2 := hide hr2
      clear hb2 d3 e3 d4 e4 d5 e5 d6 e6 d7 e7 d8 e8 d9 e9 d10 e10
      have d8 := hr2.cell (i := k * 11 + 8) (by omega)
      have e8 := hr2.frozen (k * 11 + 8)
      have d9 := hr2.cell (i := k * 11 + 9) (by omega)
      have e9 := hr2.frozen (k * 11 + 9)
      have d10 := hr2.cell (i := k * 11 + 10) (by omega)
      have e10 := hr2.frozen (k * 11 + 10)
      clear hr2
      go_wp2
      go_roundw
      case rel =>
        refine ⟨k + 1, _, by omega, by go_num, by go_num, ((((unhide HB2).trans (Bt.set b (k * 11 + 8) _ (.string (mark (s + 11 * k + 8))))).trans (Bt.set b (k * 11 + 9) _ (.int .i64 ((s : Int) + 11 * (k : Int) + 1 + 1 + 1 + 1 + 1 + 1 + 1 + 1 + 1)))).trans (Bt.set b (k * 11 + 10) _ (.int .i64 ((s : Int) + 11 * (k : Int) + 1 + 1 + 1 + 1 + 1 + 1 + 1 + 1 + 1 + 1)))), ((((unhide HR2).set (k * 11 + 8) (.string (mark (s + 11 * k + 8)))).set (k * 11 + 9) (.int .i64 ((s : Int) + 11 * (k : Int) + 1 + 1 + 1 + 1 + 1 + 1 + 1 + 1 + 1))).set (k * 11 + 10) (.int .i64 ((s : Int) + 11 * (k : Int) + 1 + 1 + 1 + 1 + 1 + 1 + 1 + 1 + 1 + 1))), fun j hj => ?_⟩
        by_cases hj' : j < k * 11
        · have hne : ∀ i, i < 11 → j ≠ k * 11 + i := fun i _ => by omega
          simp only [show j ≠ k * 11 by omega, hne 1 (by omega), hne 2 (by omega), hne 3 (by omega), hne 4 (by omega), hne 5 (by omega), hne 6 (by omega), hne 7 (by omega), hne 8 (by omega), hne 9 (by omega), hne 10 (by omega), if_false]
          exact unhide HG j hj'
        · obtain ⟨i, hi, rfl⟩ : ∃ i, i < 11 ∧ j = k * 11 + i := ⟨j - k * 11, by omega, by omega⟩
          rw [pcell_at _ k i hi]
          rcases (by omega : i = 0 ∨ i = 1 ∨ i = 2 ∨ i = 3 ∨ i = 4 ∨ i = 5 ∨ i = 6 ∨ i = 7 ∨ i = 8 ∨ i = 9 ∨ i = 10) with rfl | rfl | rfl | rfl | rfl | rfl | rfl | rfl | rfl | rfl | rfl <;> simp [prL, mkP]
      case measure => simp [intOf]; omega
    · have hkn' : k = n := by omega
      subst hkn'
      have HB := hide hb
      have HR := hide (And.intro hr hg)
      clear hb hr hg
      go_wp2
      go_ret
      exact ⟨⟨rfl, _, (unhide HR).1, (unhide HR).2⟩, unhide HB⟩

set_option maxRecDepth 100000 in
set_option maxHeartbeats 4000000 in
theorem heldPairS_any (b n cap s : Nat) (w : World) (hl : b < w.heap.size) (hA : ∀ i, i < n → PCell w b (i * 11) (mkP s i)) (hn : n ≤ 4194304) (hs : s ≤ 100000000) :
    Calls Tryz.prog 43 #[.slice (some ⟨b, 0, none⟩) n cap, .int .i64 (s : Int)] w fun e w' => e = .returned (.int .i64 ((s : Int) + 11 * (n : Int))) ∧ Below w.heap.size w w' := by
  have HA := hide hA
  clear hA
  go_enter Tryz.func43, Tryz.ntmps43
  go_wp2
  go_loopw [1, 5] (fun q i wr => ∃ (k : Nat), k ≤ n ∧ i = .int .i64 k ∧ q = .int .i64 ((s : Int) + 11 * (k : Int)) ∧ Below w.heap.size w wr) (fun _ i _ => n - (intOf i).toNat)
  case atStart => exact ⟨0, by omega, rfl, by simp, Below.refl _ _⟩
  case round =>
    obtain ⟨k, hk, rfl, rfl, hb⟩ := hrel
    have hx : b < wr.heap.size := Nat.lt_of_lt_of_le hl hb.size
    by_cases hlt : k < n
    · have hc := (unhide HA k hlt).keep (w' := wr) (fun q => hb.cell (p := ⟨b, q, none⟩) hl)
      have d0 : wr.cell? ⟨b, k * 11, none⟩ = some (.int .i64 ((s : Int) + 11 * (k : Int))) := hc.k0
      have d1 : wr.cell? ⟨b, k * 11 + 1, none⟩ = some (.int .i64 ((s : Int) + 11 * (k : Int) + 1)) := hc.k1
      have d2 : wr.cell? ⟨b, k * 11 + 2, none⟩ = some (.float .f64 (floatOfInt .f64 ((s : Int) + 11 * (k : Int) + 1 + 1))) := hc.k2
      have d3 : wr.cell? ⟨b, k * 11 + 3, none⟩ = some (.string (mark (s + 11 * k + 3))) := hc.k3
      have d4 : wr.cell? ⟨b, k * 11 + 4, none⟩ = some (.int .i64 ((s : Int) + 11 * (k : Int) + 1 + 1 + 1 + 1)) := hc.k4
      have d5 : wr.cell? ⟨b, k * 11 + 5, none⟩ = some (.int .i64 ((s : Int) + 11 * (k : Int) + 1 + 1 + 1 + 1 + 1)) := hc.v0
      have d6 : wr.cell? ⟨b, k * 11 + 6, none⟩ = some (.int .i64 ((s : Int) + 11 * (k : Int) + 1 + 1 + 1 + 1 + 1 + 1)) := hc.v1
      have d7 : wr.cell? ⟨b, k * 11 + 7, none⟩ = some (.float .f64 (floatOfInt .f64 ((s : Int) + 11 * (k : Int) + 1 + 1 + 1 + 1 + 1 + 1 + 1))) := hc.v2
      have d8 : wr.cell? ⟨b, k * 11 + 8, none⟩ = some (.string (mark (s + 11 * k + 8))) := hc.v3
      have d9 : wr.cell? ⟨b, k * 11 + 9, none⟩ = some (.int .i64 ((s : Int) + 11 * (k : Int) + 1 + 1 + 1 + 1 + 1 + 1 + 1 + 1 + 1)) := hc.v4
      have d10 : wr.cell? ⟨b, k * 11 + 10, none⟩ = some (.int .i64 ((s : Int) + 11 * (k : Int) + 1 + 1 + 1 + 1 + 1 + 1 + 1 + 1 + 1 + 1)) := hc.tn
      have g2 := fself ((s : Int) + 11 * (k : Int) + 1 + 1) (by omega) (by omega)
      have g7 := fself ((s : Int) + 11 * (k : Int) + 1 + 1 + 1 + 1 + 1 + 1 + 1) (by omega) (by omega)
      have hm3 : ∀ w : World, _ := fun w => markText_any (s + 11 * k + 3) (by omega) w
      have hm8 : ∀ w : World, _ := fun w => markText_any (s + 11 * k + 8) (by omega) w
      rw [show ((s + 11 * k + 3 : Nat) : Int) = (s : Int) + 11 * (k : Int) + 1 + 1 + 1 by omega] at hm3
      rw [show ((s + 11 * k + 8 : Nat) : Int) = (s : Int) + 11 * (k : Int) + 1 + 1 + 1 + 1 + 1 + 1 + 1 + 1 by omega] at hm8
      have H3 := hide hm3
      have H8 := hide hm8
      have HB := hide hb
      clear hb hc hm3 hm8
      go_wp2
      refine wp_region_quiet (C := fun w' => Below wr.heap.size wr w') (by kernel_rfl) (by kernel_rfl) ((Below.refl _ _).drew) ?_
      show wpQuiet _ _ _ _ [_, _, _, _, _, _, _, _, _] _
      refine wpQuiet_step (fun K hK => ?_)
      go_simp
      refine ⟨_, fun w' hw' => rfl, hK _ ?_⟩
      clear hK K
      refine wpQuiet_step (fun K hK => ?_)
      go_simp
      refine ⟨_, fun w' hw' => rfl, hK _ ?_⟩
      clear hK K
      refine wpQuiet_step (fun K hK => ?_)
      go_simp
      refine ⟨_, fun w' hw' => rfl, hK _ ?_⟩
      clear hK K
      refine wpQuiet_step (fun K hK => ?_)
      go_simp
      refine ⟨_, fun w' hw' => rfl, hK _ ?_⟩
      clear hK K
      refine wpQuiet_step (fun K hK => ?_)
      go_simp
      refine ⟨_, fun w' hw' => rfl, hK _ ?_⟩
      clear hK K
      refine wpQuiet_step (fun K hK => ?_)
      go_simp
      apply Exists.intro
      refine And.intro (fun w' hw' => ?_) (hK _ ?_)
      · obtain ⟨hc', hf'⟩ := bcell hw'
        go_simp
        first | rfl | exact ⟨rfl, rfl⟩ | exact ⟨rfl⟩
      clear hK K
      refine wpQuiet_step (fun K hK => ?_)
      go_simp
      refine ⟨_, fun w' hw' => rfl, hK _ ?_⟩
      clear hK K
      refine wpQuiet_step (fun K hK => ?_)
      go_simp
      apply Exists.intro
      refine And.intro (fun w' hw' => ?_) (hK _ ?_)
      · refine ((unhide H3) _).mono ?_
        rintro e w'' ⟨rfl, hb⟩
        exact ⟨rfl, hw'.trans (hb.mono hw'.size)⟩
      clear hK K
      refine wpQuiet_step (fun K hK => ?_)
      go_simp
      refine ⟨_, fun w' hw' => rfl, hK _ ?_⟩
      clear hK K
      refine wpQuiet_nil ?_
      intro w2 hw2
      have HB2 := hide ((unhide HB).trans (hw2.mono (unhide HB).size))
      have hx2 : b < w2.heap.size := Nat.lt_of_lt_of_le hx hw2.size
      have c4 := (hw2.cell (p := ⟨b, k * 11 + 4, none⟩) hx).trans d4
      have c5 := (hw2.cell (p := ⟨b, k * 11 + 5, none⟩) hx).trans d5
      have c6 := (hw2.cell (p := ⟨b, k * 11 + 6, none⟩) hx).trans d6
      have c7 := (hw2.cell (p := ⟨b, k * 11 + 7, none⟩) hx).trans d7
      have c8 := (hw2.cell (p := ⟨b, k * 11 + 8, none⟩) hx).trans d8
      have c9 := (hw2.cell (p := ⟨b, k * 11 + 9, none⟩) hx).trans d9
      have c10 := (hw2.cell (p := ⟨b, k * 11 + 10, none⟩) hx).trans d10
      clear hw2 HB d0 d1 d2 d3 d4 d5 d6 d7 d8 d9 d10
      go_wp2
      refine wp_region_quiet (C := fun w' => Below w2.heap.size w2 w') (by kernel_rfl) (by kernel_rfl) ((Below.refl _ _).drew) ?_
      show wpQuiet _ _ _ _ [_, _, _, _, _, _, _, _, _] _
      refine wpQuiet_step (fun K hK => ?_)
      go_simp
      refine ⟨_, fun w' hw' => rfl, hK _ ?_⟩
      clear hK K
      refine wpQuiet_step (fun K hK => ?_)
      go_simp
      refine ⟨_, fun w' hw' => rfl, hK _ ?_⟩
      clear hK K
      refine wpQuiet_step (fun K hK => ?_)
      go_simp
      refine ⟨_, fun w' hw' => rfl, hK _ ?_⟩
      clear hK K
      refine wpQuiet_step (fun K hK => ?_)
      go_simp
      refine ⟨_, fun w' hw' => rfl, hK _ ?_⟩
      clear hK K
      refine wpQuiet_step (fun K hK => ?_)
      go_simp
      refine ⟨_, fun w' hw' => rfl, hK _ ?_⟩
      clear hK K
      refine wpQuiet_step (fun K hK => ?_)
      go_simp
      apply Exists.intro
      refine And.intro (fun w' hw' => ?_) (hK _ ?_)
      · obtain ⟨hc', hf'⟩ := bcell hw'
        go_simp
        first | rfl | exact ⟨rfl, rfl⟩ | exact ⟨rfl⟩
      clear hK K
      refine wpQuiet_step (fun K hK => ?_)
      go_simp
      refine ⟨_, fun w' hw' => rfl, hK _ ?_⟩
      clear hK K
      refine wpQuiet_step (fun K hK => ?_)
      go_simp
      apply Exists.intro
      refine And.intro (fun w' hw' => ?_) (hK _ ?_)
      · refine ((unhide H8) _).mono ?_
        rintro e w'' ⟨rfl, hb⟩
        exact ⟨rfl, hw'.trans (hb.mono hw'.size)⟩
      clear hK K
      refine wpQuiet_step (fun K hK => ?_)
      go_simp
      refine ⟨_, fun w' hw' => rfl, hK _ ?_⟩
      clear hK K
      refine wpQuiet_nil ?_
      intro w3 hw3
      have HB3 := hide ((unhide HB2).trans (hw3.mono (unhide HB2).size))
      have hx3 : b < w3.heap.size := Nat.lt_of_lt_of_le hx2 hw3.size
      have d9 := (hw3.cell (p := ⟨b, k * 11 + 9, none⟩) hx2).trans c9
      have d10 := (hw3.cell (p := ⟨b, k * 11 + 10, none⟩) hx2).trans c10
      clear hw3 HB2 c4 c5 c6 c7 c8 c9 c10
      go_wp2
      go_roundw
      case rel => exact ⟨k + 1, by omega, by go_num, by go_num, unhide HB3⟩
      case measure => simp [intOf]; omega
    · have : k = n := by omega
      subst this
      have HB := hide hb
      clear hb
      go_wp2
      go_ret
      exact ⟨rfl, unhide HB⟩
end Go.Proofs.YtglcaejddckleaaGreatDoor

namespace Go.Proofs.YtglcaejddckleaaGreatDoor
open Go.RowKit
set_option linter.unusedVariables false
attribute [local go_sem] run_store_float run_equalIn_float

theorem row_set {w : World} {s N b q : Nat} {t : TypeId} {g : Nat → Value} {v : Value} (h : w.rowIs s t N g) (hb : s ≠ b) : (w.setCell ⟨b, q, none⟩ v).rowIs s t N g := World.rowIs.of_block h (Deep.blk_setCell_other _ _ _ _ (by exact hb))
/-- The rows of a dict that was made. -/
structure ToR (B : Nat) (w : World) (s0 s1 s2 : Nat) (d : Dc) : Prop where
  b0 : B ≤ s0
  b1 : B ≤ s1
  b2 : B ≤ s2
  n01 : s0 ≠ s1
  n02 : s0 ≠ s2
  n12 : s1 ≠ s2
  r0 : ∃ g, w.rowIs s0 43 (d.n * 11) g
  r1 : ∃ g, w.rowIs s1 3 d.m g
  r2 : ∃ g, w.rowIs s2 3 d.x g
theorem ToR.keep {B : Nat} {w w' : World} {s0 s1 s2 : Nat} {d : Dc} (h : ToR B w s0 s1 s2 d) (hk : ∀ q, q < w.heap.size → w'.heap[q]? = w.heap[q]?) : ToR B w' s0 s1 s2 d :=
  ⟨h.b0, h.b1, h.b2, h.n01, h.n02, h.n12, h.r0.imp fun g r => World.rowIs.of_block r (hk _ (World.rowIs.lt r)), h.r1.imp fun g r => World.rowIs.of_block r (hk _ (World.rowIs.lt r)), h.r2.imp fun g r => World.rowIs.of_block r (hk _ (World.rowIs.lt r))⟩
theorem ToR.lt {B : Nat} {w : World} {s0 s1 s2 : Nat} {d : Dc} (h : ToR B w s0 s1 s2 d) : s0 < w.heap.size ∧ s1 < w.heap.size ∧ s2 < w.heap.size := by
  obtain ⟨_, r0⟩ := h.r0
  obtain ⟨_, r1⟩ := h.r1
  obtain ⟨_, r2⟩ := h.r2
  exact ⟨World.rowIs.lt r0, World.rowIs.lt r1, World.rowIs.lt r2⟩

set_option maxRecDepth 100000 in
set_option maxHeartbeats 2000000 in
theorem toPairS_row (a : Option Addr) (n cap : Nat) (f : Nat → Pr) (w : World) (hA : PAt w a n f) (hn : n ≤ 4194304) :
    Calls Tryz.prog 77 #[.slice a n cap] w fun e w' => (e = .returned (.slice (some ⟨w.heap.size, 0, none⟩) n n) ∧ PAt w' (some ⟨w.heap.size, 0, none⟩) n f ∧ ∃ g, w'.rowIs w.heap.size 43 (n * 11) g) ∧ Below w.heap.size w w' := by
  have hmk := make_pairs n hn
  have HG := hide (made_pairs w (n * 11))
  have HA := hide hA
  clear hA
  go_enter Tryz.func77, Tryz.ntmps77
  go_wp2
  clear hmk
  go_loopw [4] (fun i wr => ∃ (k : Nat), k ≤ n ∧ i = .int .i64 k ∧ Below w.heap.size w wr ∧ (∃ g, wr.rowIs w.heap.size 43 (n * 11) g) ∧ ∀ j, j < k → PCell wr w.heap.size (j * 11) (f j)) (fun i _ => n - (intOf i).toNat)
  case atStart => exact ⟨0, by omega, rfl, (Below.refl _ _).alloc (Nat.le_refl _) _, unhide HG, fun j hj => by omega⟩
  case round =>
    clear HG
    obtain ⟨k, hk, rfl, hb, ⟨g, hrow⟩, hall⟩ := hrel
    by_cases hkn : k < n
    · obtain ⟨b, off, rfl, hbl, hcs⟩ := (unhide HA).resolve_left (by omega)
      obtain ⟨e0, e1, e2, e3, e4, e5, e6, e7, e8, e9, e10⟩ := (hcs k hkn).keep (fun q => hb.cell (p := ⟨b, q, none⟩) hbl)
      have hrl := World.rowIs.lt hrow
      have HB := hide hb
      have HR := hide hrow
      have HALL := hide hall
      clear hcs hb hrow hall
      go_wp2_with fail
      refine (toPair_any (f k) _).mono ?_
      rintro e w1 ⟨rfl, hb1⟩
      have hrow1 := World.rowIs.of_block (unhide HR) (hb1.block _ hrl)
      have d0 := hrow1.cell (i := k * 11) (by omega)
      have f0 := hrow1.frozen (k * 11)
      have d1 := hrow1.cell (i := k * 11 + 1) (by omega)
      have f1 := hrow1.frozen (k * 11 + 1)
      have d2 := hrow1.cell (i := k * 11 + 2) (by omega)
      have f2 := hrow1.frozen (k * 11 + 2)
      have d3 := hrow1.cell (i := k * 11 + 3) (by omega)
      have f3 := hrow1.frozen (k * 11 + 3)
      have d4 := hrow1.cell (i := k * 11 + 4) (by omega)
      have f4 := hrow1.frozen (k * 11 + 4)
      have d5 := hrow1.cell (i := k * 11 + 5) (by omega)
      have f5 := hrow1.frozen (k * 11 + 5)
      have d6 := hrow1.cell (i := k * 11 + 6) (by omega)
      have f6 := hrow1.frozen (k * 11 + 6)
      have d7 := hrow1.cell (i := k * 11 + 7) (by omega)
      have f7 := hrow1.frozen (k * 11 + 7)
      have d8 := hrow1.cell (i := k * 11 + 8) (by omega)
      have f8 := hrow1.frozen (k * 11 + 8)
      have d9 := hrow1.cell (i := k * 11 + 9) (by omega)
      have f9 := hrow1.frozen (k * 11 + 9)
      have d10 := hrow1.cell (i := k * 11 + 10) (by omega)
      have f10 := hrow1.frozen (k * 11 + 10)
      obtain ⟨hg', hpc⟩ := set11_row hrow1 (o := k * 11) (by omega) (f k)
      have HN : Hid (∀ j, j < k → PCell w1 w.heap.size (j * 11) (f j)) := hide (fun j hj => (unhide HALL j hj).keepAt (fun q _ => World.cell?_of_block (hb1.block _ hrl)))
      have HG' := hide hg'
      have HPC := hide hpc
      have HB1 := hide ((unhide HB).trans (hb1.mono (unhide HB).size))
      clear hb1 hrow1 hg' hpc e0 e1 e2 e3 e4 e5 e6 e7 e8 e9 e10
      go_wp2_with fail
      go_roundw
      case rel =>
        refine ⟨k + 1, by omega, by go_num, ?_, unhide HG', fun j hj => ?_⟩
        · repeat (refine Below.setCell ?_ (by exact Nat.le_refl _) _)
          exact unhide HB1
        · by_cases e : j = k
          · subst e; exact unhide HPC
          · exact (unhide HN j (by omega)).keepAt (fun q hq => set11_other (f k) (by omega))
      case measure => simp [intOf]; omega
    · have hkn' : k = n := by omega
      subst hkn'
      have HALL := hide hall
      have HB := hide hb
      have hrl := World.rowIs.lt hrow
      have HRW := hide hrow
      clear hall hb hrow
      go_wp2_with fail
      go_ret
      exact ⟨⟨rfl, .inr ⟨_, 0, rfl, hrl, fun i hi => by rw [Nat.zero_add]; exact unhide HALL i hi⟩, _, unhide HRW⟩, unhide HB⟩

set_option maxRecDepth 100000 in
set_option maxHeartbeats 2000000 in
theorem toIntS_row (a : Option Addr) (n cap : Nat) (f : Nat → Int) (w : World) (hA : IAt w a n f) (hn : n ≤ 4194304) :
    Calls Tryz.prog 78 #[.slice a n cap] w fun e w' => (e = .returned (.slice (some ⟨w.heap.size, 0, none⟩) n n) ∧ IAt w' (some ⟨w.heap.size, 0, none⟩) n f ∧ ∃ g, w'.rowIs w.heap.size 3 n g) ∧ Below w.heap.size w w' := by
  have hmk := make_ints n hn
  have HG := hide (made_zeros w n)
  have HA := hide hA
  clear hA
  go_enter Tryz.func78, Tryz.ntmps78
  go_wp2
  clear hmk
  go_loopw [4] (fun i wr => ∃ (k : Nat) (g : Nat → Value), k ≤ n ∧ i = .int .i64 k ∧ Below w.heap.size w wr ∧ wr.rowIs w.heap.size 3 n g ∧ ∀ j, j < k → g j = .int .i64 (f j)) (fun i _ => n - (intOf i).toNat)
  case atStart => exact ⟨0, _, by omega, rfl, (Below.refl _ _).alloc (Nat.le_refl _) _, unhide HG, fun j hj => by omega⟩
  case round =>
    clear HG
    obtain ⟨k, g, hk, rfl, hb, hrow, hall⟩ := hrel
    by_cases hkn : k < n
    · obtain ⟨b, off, rfl, hbl, hcs⟩ := (unhide HA).resolve_left (by omega)
      have e0 := (hb.cell (p := ⟨b, off + k, none⟩) hbl).trans (hcs k hkn)
      have hrl := World.rowIs.lt hrow
      have d0 := hrow.cell hkn
      have f0 := hrow.frozen k
      have HN : Hid ((wr.setCell ⟨w.heap.size, k, none⟩ (.int .i64 (f k))).rowIs w.heap.size 3 n (fun i => if i = k then .int .i64 (f k) else g i) ∧ ∀ j, j < k + 1 → (fun i => if i = k then .int .i64 (f k) else g i) j = .int .i64 (f j)) := hide ⟨hrow.set k _, fun j hj => by
        by_cases e : j = k
        · subst e; simp
        · simp only [e, if_false]; exact hall j (by omega)⟩
      have HB := hide hb
      clear hcs hb hrow hall
      go_wp2_with fail
      go_roundw
      case rel => exact ⟨k + 1, _, by omega, by go_num, (unhide HB).setCell (by exact Nat.le_refl _) _, (unhide HN).1, (unhide HN).2⟩
      case measure => simp [intOf]; omega
    · have hkn' : k = n := by omega
      subst hkn'
      have HALL := hide (⟨hrow, hall⟩ : wr.rowIs w.heap.size 3 k g ∧ ∀ j, j < k → g j = .int .i64 (f j))
      have HB := hide hb
      have hrl := World.rowIs.lt hrow
      clear hall hb hrow
      go_wp2_with fail
      go_ret
      exact ⟨⟨rfl, .inr ⟨_, 0, rfl, hrl, fun i hi => by rw [Nat.zero_add, (unhide HALL).1.cell hi, (unhide HALL).2 i hi]⟩, _, (unhide HALL).1⟩, unhide HB⟩
set_option maxRecDepth 100000 in
set_option maxHeartbeats 2000000 in
theorem toDict_row (la : Option Addr) (lc : Nat) (ia : Option Addr) (ic : Nat) (xa : Option Addr) (xc : Nat) (d : Dc) (w : World) (hD : DAt w la ia xa d) (hS : Small d) :
    Calls Tryz.prog 30 #[Dv la lc ia ic xa xc d] w fun e w' => (∃ s0 s1 s2, e = .returned (Dv (some ⟨s0, 0, none⟩) d.n (some ⟨s1, 0, none⟩) d.m (some ⟨s2, 0, none⟩) d.x d) ∧ DAt w' (some ⟨s0, 0, none⟩) (some ⟨s1, 0, none⟩) (some ⟨s2, 0, none⟩) d ∧ ToR w.heap.size w' s0 s1 s2 d) ∧ Below w.heap.size w w' := by
  have HD := hide hD
  have HS := hide hS
  clear hD hS
  have hb0 : Below w.heap.size w (((w.alloc (.cells #[.slice la d.n lc, .slice ia d.m ic, .slice xa d.x xc, .int .i64 d.used, .int .i64 d.live, .int .i64 d.turns] 53)).alloc (.cells #[.slice none 0 0, .slice none 0 0, .slice none 0 0, .int .i64 0, .int .i64 0, .int .i64 0] 26)).alloc (.cells #[.slice none 0 0, .slice none 0 0, .slice none 0 0, .int .i64 0, .int .i64 0, .int .i64 0] 26)) := (((Below.refl _ _).alloc (Nat.le_refl _) _).alloc (by simp) _).alloc (by simp; omega) _
  have HB0 := hide hb0
  clear hb0
  go_enter Tryz.func30, Tryz.ntmps30
  go_wp2_with fail
  refine (toPairS_row la d.n lc d.L _ ((unhide HD).below (unhide HB0)).log (unhide HS).n).mono ?_
  rintro e w1 ⟨⟨rfl, hP, hPR⟩, hb1⟩
  obtain ⟨hc1, hf1⟩ := bcell hb1
  have hz1 := hb1.size
  simp at hz1 hP hPR
  obtain ⟨g0, hPR⟩ := hPR
  have y0 : w.heap.size < w1.heap.size := by omega
  have y1 : w.heap.size + 1 < w1.heap.size := by omega
  have y2 : w.heap.size + 1 + 1 < w1.heap.size := by omega
  have HB1 := hide ((unhide HB0).trans (hb1.mono (unhide HB0).size))
  have HP1 := hide hP
  have HPR1 := hide hPR
  clear hb1 hP hPR
  have HBs1 : Hid (∀ v, Below w.heap.size w (w1.setCell ⟨w.heap.size + 1 + 1, 0, none⟩ v)) := hide (fun v => (unhide HB1).setCell (by show w.heap.size ≤ w.heap.size + 1 + 1; omega) _)
  go_wp2_with fail
  refine (toIntS_row ia d.m ic d.I _ ((unhide HD).below (unhide HBs1 _)).ints (unhide HS).m).mono ?_
  rintro e w2 ⟨⟨rfl, hI, hIR⟩, hb2⟩
  obtain ⟨hc2, hf2⟩ := bcell hb2
  have hz2 := hb2.size
  simp at hz2 hI hIR
  obtain ⟨gi, hIR⟩ := hIR
  have z0 : w.heap.size < w2.heap.size := by omega
  have z1 : w.heap.size + 1 < w2.heap.size := by omega
  have z2 : w.heap.size + 1 + 1 < w2.heap.size := by omega
  have HB2 := hide ((unhide HBs1 _).trans (hb2.mono (unhide HBs1 _).size))
  have HP2 := hide (PAt.below (PAt.setOther (q := 0) (v := .slice (some ⟨w.heap.size + 1 + 1 + 1, 0, none⟩) d.n d.n) (unhide HP1) (show w.heap.size + 1 + 1 + 1 ≠ w.heap.size + 1 + 1 by omega)) hb2 rfl)
  have HI2 := hide hI
  have HPR2 := hide (World.rowIs.of_block (row_set (q := 0) (v := .slice (some ⟨w.heap.size + 1 + 1 + 1, 0, none⟩) d.n d.n) (unhide HPR1) (show w.heap.size + 1 + 1 + 1 ≠ w.heap.size + 1 + 1 by omega)) (hb2.block _ (by have := World.rowIs.lt (unhide HPR1); simpa using this)))
  have HIR2 := hide hIR
  clear hb2 hI hIR
  have HBs2 : Hid (∀ v, Below w.heap.size w (w2.setCell ⟨w.heap.size + 1 + 1, 1, none⟩ v)) := hide (fun v => (unhide HB2).setCell (by show w.heap.size ≤ w.heap.size + 1 + 1; omega) _)
  go_wp2_with fail
  refine (toIntS_row xa d.x xc d.X _ ((unhide HD).below (unhide HBs2 _)).index (unhide HS).x).mono ?_
  rintro e w3 ⟨⟨rfl, hX, hXR⟩, hb3⟩
  obtain ⟨hc3, hf3⟩ := bcell hb3
  have hz3 := hb3.size
  simp at hz3 hX hXR
  obtain ⟨gx, hXR⟩ := hXR
  have x0 : w.heap.size < w3.heap.size := by omega
  have x1 : w.heap.size + 1 < w3.heap.size := by omega
  have x2 : w.heap.size + 1 + 1 < w3.heap.size := by omega
  have HB3 := hide ((unhide HBs2 _).trans (hb3.mono (unhide HBs2 _).size))
  have HP3 := hide (PAt.below (PAt.setOther (q := 1) (v := .slice (some ⟨w1.heap.size, 0, none⟩) d.m d.m) (unhide HP2) (show w.heap.size + 1 + 1 + 1 ≠ w.heap.size + 1 + 1 by omega)) hb3 rfl)
  have HI3 := hide (IAt.below (IAt.setOther (q := 1) (v := .slice (some ⟨w1.heap.size, 0, none⟩) d.m d.m) (unhide HI2) (show w1.heap.size ≠ w.heap.size + 1 + 1 by omega)) hb3 rfl)
  have HX3 := hide hX
  have HPR3 := hide (World.rowIs.of_block (row_set (q := 1) (v := .slice (some ⟨w1.heap.size, 0, none⟩) d.m d.m) (unhide HPR2) (show w.heap.size + 1 + 1 + 1 ≠ w.heap.size + 1 + 1 by omega)) (hb3.block _ (by have := World.rowIs.lt (unhide HPR2); simpa using this)))
  have HIR3 := hide (World.rowIs.of_block (row_set (q := 1) (v := .slice (some ⟨w1.heap.size, 0, none⟩) d.m d.m) (unhide HIR2) (show w1.heap.size ≠ w.heap.size + 1 + 1 by omega)) (hb3.block _ (by have := World.rowIs.lt (unhide HIR2); simpa using this)))
  have HXR3 := hide hXR
  have hpl : w.heap.size + 1 + 1 + 1 < w1.heap.size := World.rowIs.lt (unhide HPR1)
  have hil : w1.heap.size < w2.heap.size := World.rowIs.lt (unhide HIR2)
  clear hb3 hX hXR
  have g1 : w1.heap.size ≠ w.heap.size + 1 + 1 := by omega
  have g2 : w1.heap.size ≠ w.heap.size + 1 := by omega
  have g3 : w2.heap.size ≠ w.heap.size + 1 + 1 := by omega
  have g4 : w2.heap.size ≠ w.heap.size + 1 := by omega
  go_wp2
  refine bodyPost_ret (v := Dv (some ⟨w.heap.size + 1 + 1 + 1, 0, none⟩) d.n (some ⟨w1.heap.size, 0, none⟩) d.m (some ⟨w2.heap.size, 0, none⟩) d.x d) (by simp [results, Tryz.results30, go_sem, hc1, hc2, hc3, y1, z1]) rfl ⟨⟨_, _, _, rfl, ⟨?_, ?_, ?_⟩, ⟨by omega, by omega, by omega, by omega, by omega, by omega, ⟨g0, ?_⟩, ⟨gi, ?_⟩, ⟨gx, ?_⟩⟩⟩, ?_⟩
  · repeat (refine PAt.setOther ?_ (by omega))
    exact unhide HP3
  · repeat (refine IAt.setOther ?_ (by omega))
    exact unhide HI3
  · repeat (refine IAt.setOther ?_ (by omega))
    exact unhide HX3
  · repeat (refine row_set ?_ (by omega))
    exact unhide HPR3
  · repeat (refine row_set ?_ (by omega))
    exact unhide HIR3
  · repeat (refine row_set ?_ (by omega))
    exact unhide HXR3
  · repeat (refine Below.setCell ?_ (by first | (show w.heap.size ≤ w.heap.size + 1; omega) | (show w.heap.size ≤ w.heap.size + 1 + 1; omega)) _)
    exact unhide HB3

/-- All but three blocks lie as they lay. -/
structure Bt3 (a b c : Nat) (w w' : World) : Prop where
  os : w'.os = w.os
  tape : w'.tape = w.tape
  output : w'.output = w.output
  size : w.heap.size ≤ w'.heap.size
  block : ∀ k, k < w.heap.size → k ≠ a → k ≠ b → k ≠ c → w'.heap[k]? = w.heap[k]?
theorem Bt3.below {a b c B : Nat} {w w' : World} (h : Bt3 a b c w w') (ha : B ≤ a) (hb : B ≤ b) (hc : B ≤ c) (hB : B ≤ w.heap.size) : Below B w w' := ⟨h.os, h.tape, h.output, h.size, fun k hk => h.block k (by omega) (by omega) (by omega) (by omega)⟩

set_option maxRecDepth 100000 in
set_option maxHeartbeats 2000000 in
theorem markDict_any (B s0 s1 s2 c0 c1 c2 : Nat) (d : Dc) (w : World) (hR : ToR B w s0 s1 s2 d) (hS : Small d) :
    Calls Tryz.prog 36 #[Dv (some ⟨s0, 0, none⟩) c0 (some ⟨s1, 0, none⟩) c1 (some ⟨s2, 0, none⟩) c2 d, .int .i64 1] w fun e w' => (∃ r : Int, e = .returned (.int .i64 r) ∧ 0 ≤ r) ∧ Bt3 s0 s1 s2 w w' := by
  obtain ⟨hn, hm, hx⟩ := hS
  obtain ⟨l0, l1, l2⟩ := hR.lt
  have n01 := hR.n01
  have n02 := hR.n02
  have n12 := hR.n12
  obtain ⟨g0, r0⟩ := hR.r0
  obtain ⟨g1, r1⟩ := hR.r1
  obtain ⟨g2, r2⟩ := hR.r2
  obtain ⟨W, hW⟩ : ∃ W, W = w.alloc (.cells #[.slice (some ⟨s0, 0, none⟩) d.n c0, .slice (some ⟨s1, 0, none⟩) d.m c1, .slice (some ⟨s2, 0, none⟩) d.x c2, .int .i64 d.used, .int .i64 d.live, .int .i64 d.turns] 26) := ⟨_, rfl⟩
  have hbW : Below w.heap.size w W := by rw [hW]; exact (Below.refl _ _).alloc (Nat.le_refl _) _
  have hzW : W.heap.size = w.heap.size + 1 := by rw [hW]; simp
  have a0 : W.cell? ⟨w.heap.size, 0, none⟩ = some (.slice (some ⟨s0, 0, none⟩) d.n c0) := by rw [hW]; simp [go_sem]
  have a1 : W.cell? ⟨w.heap.size, 1, none⟩ = some (.slice (some ⟨s1, 0, none⟩) d.m c1) := by rw [hW]; simp [go_sem]
  have a2 : W.cell? ⟨w.heap.size, 2, none⟩ = some (.slice (some ⟨s2, 0, none⟩) d.x c2) := by rw [hW]; simp [go_sem]
  have HR0 := hide (World.rowIs.of_block r0 (hbW.block _ l0))
  have HR1 := hide (World.rowIs.of_block r1 (hbW.block _ l1))
  have HR2 := hide (World.rowIs.of_block r2 (hbW.block _ l2))
  have HBW := hide hbW
  clear r0 r1 r2 hbW hR
  go_enter Tryz.func36, Tryz.ntmps36
  go_wp2_with fail
  rw [← hW]
  have wl : w.heap.size < W.heap.size := by omega
  clear hW
  have h1 := markPairS_any s0 d.n c0 (d.n * 11) 1 g0 W (unhide HR0) (Nat.le_refl _) hn (by omega)
  rw [show ((1 : Nat) : Int) = 1 from rfl] at h1
  refine h1.mono ?_
  rintro e w1 ⟨⟨rfl, _⟩, hb1⟩
  have b1 := (World.cell?_of_block (a := ⟨w.heap.size, 1, none⟩) (hb1.block w.heap.size wl (by omega))).trans a1
  have b2 := (World.cell?_of_block (a := ⟨w.heap.size, 2, none⟩) (hb1.block w.heap.size wl (by omega))).trans a2
  have wl1 := Nat.lt_of_lt_of_le wl hb1.size
  have HR11 := hide (World.rowIs.of_block (unhide HR1) (hb1.block s1 (by omega) (by omega)))
  have HR21 := hide (World.rowIs.of_block (unhide HR2) (hb1.block s2 (by omega) (by omega)))
  have HB1 := hide hb1
  clear h1 hb1 a0 a1 a2 HR0 HR1 HR2
  go_wp2_with fail
  have h2 := markIntS_any s1 d.m c1 d.m (1 + 11 * d.n) g1 w1 (unhide HR11) (Nat.le_refl _) hm (by omega)
  rw [show ((1 + 11 * d.n : Nat) : Int) = 1 + 11 * (d.n : Int) by omega] at h2
  refine h2.mono ?_
  rintro e w2 ⟨⟨rfl, _⟩, hb2⟩
  have e2 := (World.cell?_of_block (a := ⟨w.heap.size, 2, none⟩) (hb2.block w.heap.size wl1 (by omega))).trans b2
  have z1 := (unhide HB1).size
  have wl2 := Nat.lt_of_lt_of_le wl1 hb2.size
  have HR22 := hide (World.rowIs.of_block (unhide HR21) (hb2.block s2 (by omega) (by omega)))
  have HB2 := hide hb2
  clear h2 hb2 b1 b2 HR11 HR21
  go_wp2_with fail
  have h3 := markIntS_any s2 d.x c2 d.x (1 + 11 * d.n + d.m) g2 w2 (unhide HR22) (Nat.le_refl _) hx (by omega)
  refine h3.mono ?_
  rintro e w3 ⟨⟨rfl, _⟩, hb3⟩
  have z2 := (unhide HB2).size
  have HB3 : Hid (Bt3 s0 s1 s2 w w3) := hide ⟨hb3.os.trans ((unhide HB2).os.trans ((unhide HB1).os.trans (unhide HBW).os)), hb3.tape.trans ((unhide HB2).tape.trans ((unhide HB1).tape.trans (unhide HBW).tape)), hb3.output.trans ((unhide HB2).output.trans ((unhide HB1).output.trans (unhide HBW).output)), by have := hb3.size; omega, fun k hk h0 h1 h2 => (hb3.block k (by omega) h2).trans (((unhide HB2).block k (by omega) h1).trans (((unhide HB1).block k (by omega) h0).trans ((unhide HBW).block k hk)))⟩
  clear h3 hb3 e2 HR22
  go_wp2
  go_ret
  exact ⟨⟨_, rfl, by omega⟩, unhide HB3⟩

set_option maxHeartbeats 1000000 in
theorem markPairS_nil (w : World) :
    Calls Tryz.prog 42 #[.slice none 0 0, .int .i64 1] w fun e w' => e = .returned (.int .i64 1) ∧ w' = w := by
  go_enter Tryz.func42, Tryz.ntmps42
  go_wp2
  go_loopw [1, 5] (fun q i wr => q = .int .i64 1 ∧ i = .int .i64 0 ∧ wr = w) (fun _ _ _ => 0)
  case atStart => exact ⟨rfl, rfl, rfl⟩
  case round =>
    obtain ⟨rfl, rfl, rfl⟩ := hrel
    go_wp2
    go_ret
    exact ⟨rfl, rfl⟩

set_option maxHeartbeats 1000000 in
theorem heldPairS_nil (w : World) :
    Calls Tryz.prog 43 #[.slice none 0 0, .int .i64 1] w fun e w' => e = .returned (.int .i64 1) ∧ w' = w := by
  go_enter Tryz.func43, Tryz.ntmps43
  go_wp2
  go_loopw [1, 5] (fun q i wr => q = .int .i64 1 ∧ i = .int .i64 0 ∧ wr = w) (fun _ _ _ => 0)
  case atStart => exact ⟨rfl, rfl, rfl⟩
  case round =>
    obtain ⟨rfl, rfl, rfl⟩ := hrel
    go_wp2
    go_ret
    exact ⟨rfl, rfl⟩

/-- The pairs of an answer. -/
def PrV (f : Nat → Pr) (n : Nat) (w : World) (v : Value) (lo hi : Nat) : Prop :=
  (n = 0 ∧ v = .slice none 0 0) ∨ ∃ b cp N g, v = .slice (some ⟨b, 0, none⟩) n cp ∧ lo ≤ b ∧ b < hi ∧ w.rowIs b 43 N g ∧ n * 11 ≤ N ∧ ∀ j, j < n * 11 → g j = pcell f j
theorem PrV.keep {f : Nat → Pr} {n : Nat} {w w' : World} {v : Value} {lo hi : Nat} (h : PrV f n w v lo hi) (hk : ∀ b, lo ≤ b → b < hi → w'.heap[b]? = w.heap[b]?) : PrV f n w' v lo hi := by
  rcases h with h | ⟨b, cp, N, g, h1, h2, h3, h4, h5, h6⟩
  · exact .inl h
  · exact .inr ⟨b, cp, N, g, h1, h2, h3, World.rowIs.of_block h4 (hk b h2 h3), h5, h6⟩
theorem PrV.below {f : Nat → Pr} {n : Nat} {w w' : World} {v : Value} {lo hi B : Nat} (h : PrV f n w v lo hi) (hb : Below B w w') (hB : hi ≤ B) : PrV f n w' v lo hi := h.keep fun b _ h2 => hb.block b (by omega)
theorem PrV.of {f : Nat → Pr} {n B : Nat} {w : World} {v : Value} (h : POwn w B v n f) : PrV f n w v B w.heap.size := by
  have hlt := h.lt
  obtain ⟨hl, ⟨hv, h0⟩ | ⟨g', cap, cur, hv, hb, hblk, h1, h2, h3, h4⟩⟩ := h
  · exact .inl ⟨h0, hv⟩
  · subst hv
    refine .inr ⟨g', cap, cap * 11, fun j => (cur[j]?).getD undef, rfl, hb, (hlt g' rfl).2, ⟨cur, hblk, h3, fun i hi => by simp [Array.getElem?_eq_getElem (show i < cur.size by omega)]⟩, by omega, fun j hj => ?_⟩
    have h5 := pL_get (f := f) (n := n) (i := j / 11) (j := j % 11) (by omega) (by omega)
    rw [show j / 11 * 11 + j % 11 = j by omega, ← h4, List.getElem?_take, if_pos hj, Array.getElem?_toList] at h5
    show (cur[j]?).getD undef = _
    rw [h5]
    rfl
theorem PrV.at {f : Nat → Pr} {n : Nat} {w : World} {v : Value} {lo hi : Nat} (h : PrV f n w v lo hi) : ∃ a cp, v = .slice a n cp ∧ PAt w a n f := by
  rcases h with ⟨h0, rfl⟩ | ⟨b, cp, N, g, h1, h2, h3, h4, h5, h6⟩
  · subst h0; exact ⟨_, _, rfl, .inl rfl⟩
  · exact ⟨_, _, h1, .inr ⟨b, 0, rfl, World.rowIs.lt h4, fun i hi => by rw [Nat.zero_add]; exact pcells h4 h5 h6 hi⟩⟩
theorem eqPrV {f : Nat → Pr} {n : Nat} {w : World} {v v' : Value} {lo hi lo' hi' : Nat} (h : PrV f n w v lo hi) (h' : PrV f n w v' lo' hi') (hn : n ≤ 4194304) :
    Calls Tryz.prog 41 #[v, v'] w fun e w' => e = .returned (.bool true) ∧ Below w.heap.size w w' := by
  obtain ⟨a, cp, rfl, hA⟩ := h.at
  obtain ⟨a', cp', rfl, hA'⟩ := h'.at
  exact eqPairS_same a a' n cp cp' f w hA hA' hn
theorem markPrV {f : Nat → Pr} {n : Nat} {w : World} {v : Value} {lo hi : Nat} (h : PrV f n w v lo hi) (hl : lo ≤ w.heap.size) (hn : n ≤ 4194304) :
    Calls Tryz.prog 42 #[v, .int .i64 1] w fun e w' => (e = .returned (.int .i64 (1 + 11 * (n : Int))) ∧ PrV (mkP 1) n w' v lo hi) ∧ Below lo w w' := by
  rcases h with ⟨h0, rfl⟩ | ⟨b, cp, N, g, rfl, h2, h3, h4, h5, h6⟩
  · subst h0
    refine (markPairS_nil w).mono fun e w' h => ?_
    rw [h.2]
    exact ⟨⟨by rw [h.1]; rfl, .inl ⟨rfl, rfl⟩⟩, Below.refl _ _⟩
  · have h1 := markPairS_any b n cp N 1 g w h4 h5 hn (by omega)
    rw [show ((1 : Nat) : Int) = 1 from rfl] at h1
    refine h1.mono fun e w' h => ?_
    obtain ⟨⟨rfl, g', hr, hg⟩, hb⟩ := h
    exact ⟨⟨rfl, .inr ⟨b, cp, N, g', rfl, h2, h3, hr, h5, hg⟩⟩, hb.below h2 hl⟩
theorem heldPrV {n : Nat} {w : World} {v : Value} {lo hi : Nat} (h : PrV (mkP 1) n w v lo hi) (hn : n ≤ 4194304) :
    Calls Tryz.prog 43 #[v, .int .i64 1] w fun e w' => e = .returned (.int .i64 (1 + 11 * (n : Int))) ∧ Below w.heap.size w w' := by
  rcases h with ⟨h0, rfl⟩ | ⟨b, cp, N, g, rfl, h2, h3, h4, h5, h6⟩
  · subst h0
    refine (heldPairS_nil w).mono fun e w' h => ?_
    rw [h.2]
    exact ⟨by rw [h.1]; rfl, Below.refl _ _⟩
  · have h1 := heldPairS_any b n cp 1 w (World.rowIs.lt h4) (fun i hi => pcells h4 h5 h6 hi) hn (by omega)
    rw [show ((1 : Nat) : Int) = 1 from rfl] at h1
    exact h1
end Go.Proofs.YtglcaejddckleaaGreatDoor

namespace Go.Proofs.YtglcaejddckleaaGreatDoor
open Go.RowKit
set_option linter.unusedVariables false

theorem six6 {w w' : World} {b : Nat} {v0 v1 v2 v3 v4 v5 : Value} (hb : Below w.heap.size w w') (hl : b < w.heap.size) (h : w.cell? ⟨b, 0, none⟩ = some v0 ∧ w.cell? ⟨b, 1, none⟩ = some v1 ∧ w.cell? ⟨b, 2, none⟩ = some v2 ∧ w.cell? ⟨b, 3, none⟩ = some v3 ∧ w.cell? ⟨b, 4, none⟩ = some v4 ∧ w.cell? ⟨b, 5, none⟩ = some v5) :
    w'.cell? ⟨b, 0, none⟩ = some v0 ∧ w'.cell? ⟨b, 1, none⟩ = some v1 ∧ w'.cell? ⟨b, 2, none⟩ = some v2 ∧ w'.cell? ⟨b, 3, none⟩ = some v3 ∧ w'.cell? ⟨b, 4, none⟩ = some v4 ∧ w'.cell? ⟨b, 5, none⟩ = some v5 :=
  ⟨(hb.cell (p := ⟨b, 0, none⟩) hl).trans h.1, (hb.cell (p := ⟨b, 1, none⟩) hl).trans h.2.1, (hb.cell (p := ⟨b, 2, none⟩) hl).trans h.2.2.1, (hb.cell (p := ⟨b, 3, none⟩) hl).trans h.2.2.2.1, (hb.cell (p := ⟨b, 4, none⟩) hl).trans h.2.2.2.2.1, (hb.cell (p := ⟨b, 5, none⟩) hl).trans h.2.2.2.2.2⟩


abbrev PrW (d : Dc) (w : World) (v : Value) (lo hi : Nat) : Prop := PrV (lvF d) (prsN d) w v lo hi

set_option maxRecDepth 100000 in
set_option maxHeartbeats 8000000 in
theorem law_dictPairs (la : Option Addr) (lc : Nat) (ia : Option Addr) (ic : Nat) (xa : Option Addr) (xc : Nat) (d : Dc) (w : World) (hA : DAt w la ia xa d) (hL : Lens d) (hW : WfD d) (hT : Tabs w) :
    Calls Tryz.prog 10 #[Dv la lc ia ic xa xc d] w fun e w' => e = .returned (.bool true) ∧ Below w.heap.size w w' := by
  have HA := hide hA
  have HL := hide hL
  have HW := hide hW
  have HT := hide hT
  clear hA hL hW hT
  have hb0 : Below w.heap.size w (w.alloc (.cells #[.slice la d.n lc, .slice ia d.m ic, .slice xa d.x xc, .int .i64 d.used, .int .i64 d.live, .int .i64 d.turns] 53)) := (Below.refl _ _).alloc (Nat.le_refl _) _
  have HB0 := hide hb0
  clear hb0
  go_enter Tryz.func10, Tryz.ntmps10
  go_wp2_with fail
  refine (szDict_any la lc ia ic xa xc d 1048576 _ ((unhide HA).below (unhide HB0)) (unhide HL) (by omega) (by omega)).mono ?_
  rintro e w1 ⟨⟨r, rfl, hr⟩, hb1⟩
  obtain ⟨hc1, hf1⟩ := bcell hb1
  have hz1 := hb1.size
  simp at hz1
  have y1 : w.heap.size < w1.heap.size := by omega
  have a1 : w1.cell? ⟨w.heap.size, 0, none⟩ = some (.slice la d.n lc) ∧ w1.cell? ⟨w.heap.size, 1, none⟩ = some (.slice ia d.m ic) ∧ w1.cell? ⟨w.heap.size, 2, none⟩ = some (.slice xa d.x xc) ∧ w1.cell? ⟨w.heap.size, 3, none⟩ = some (.int .i64 d.used) ∧ w1.cell? ⟨w.heap.size, 4, none⟩ = some (.int .i64 d.live) ∧ w1.cell? ⟨w.heap.size, 5, none⟩ = some (.int .i64 d.turns) := by
    refine ⟨?_, ?_, ?_, ?_, ?_, ?_⟩ <;> (rw [hc1 _ _ (by simp)]; simp [go_sem])
  have HB1 := hide ((unhide HB0).trans (hb1.mono (unhide HB0).size))
  clear hb1 hc1 hf1 hz1
  rcases hr with rfl | ⟨hr0, hr1, hS⟩
  · clear a1
    go_wp2_with fail
    go_ret
    exact ⟨rfl, unhide HB1⟩
  have HS := hide hS
  clear hS
  obtain ⟨p0, p1, p2, p3, p4, p5⟩ := a1
  go_wp2_with fail
  refine (toDict_any la lc ia ic xa xc d _ ((unhide HA).below (unhide HB1)) (unhide HS)).mono ?_
  rintro e w2 ⟨⟨s0, s1, s2, rfl, hrow⟩, hb2⟩
  have a2 := six6 hb2 y1 ⟨p0, p1, p2, p3, p4, p5⟩
  have y2 : w.heap.size < w2.heap.size := Nat.lt_of_lt_of_le y1 hb2.size
  have HB2 := hide ((unhide HB1).trans (hb2.mono (unhide HB1).size))
  have HR := hide hrow
  clear hb2 hrow p0 p1 p2 p3 p4 p5
  go_wp2_with fail
  refine (specPairs (some ⟨s0, 0, none⟩) d.n (some ⟨s1, 0, none⟩) d.m (some ⟨s2, 0, none⟩) d.x d _ (unhide HR) (unhide HS) (unhide HW)).mono ?_
  rintro e w3 ⟨⟨u3, rfl, hv3⟩, hb3⟩
  have hpn : prsN d ≤ 4194304 := Nat.le_trans (prsN_le d) (unhide HS).n
  have HV3 : Hid (PrW d w3 u3 w2.heap.size w3.heap.size) := hide (PrV.of hv3)
  have a3 := six6 hb3 y2 a2
  have y3 : w.heap.size < w3.heap.size := Nat.lt_of_lt_of_le y2 hb3.size
  have z23 := hb3.size
  have HB3 := hide ((unhide HB2).trans (hb3.mono (unhide HB2).size))
  clear hb3 HR a2 hv3
  obtain ⟨p0, p1, p2, p3, p4, p5⟩ := a3
  go_wp2_with fail
  refine (toDict_row la lc ia ic xa xc d _ ((unhide HA).below (unhide HB3)) (unhide HS)).mono ?_
  rintro e w4 ⟨⟨t0, t1, t2, rfl, hrow, htr⟩, hb4⟩
  have a4 := six6 hb4 y3 ⟨p0, p1, p2, p3, p4, p5⟩
  have y4 : w.heap.size < w4.heap.size := Nat.lt_of_lt_of_le y3 hb4.size
  have z34 := hb4.size
  have HB4 := hide ((unhide HB3).trans (hb4.mono (unhide HB3).size))
  have HR := hide hrow
  have HTR := hide htr
  obtain ⟨tl0, tl1, tl2⟩ := htr.lt
  have tb0 := htr.b0
  have tb1 := htr.b1
  have tb2 := htr.b2
  have HV4 := hide ((unhide HV3).below hb4 (Nat.le_refl _))
  have HBs : Hid (∀ o, Below w.heap.size w (w4.alloc o)) := hide (fun o => (unhide HB4).alloc (by omega) _)
  clear hb4 hrow htr p0 p1 p2 p3 p4 p5 HV3
  go_wp2_with fail
  refine (implPairs (some ⟨t0, 0, none⟩) d.n (some ⟨t1, 0, none⟩) d.m (some ⟨t2, 0, none⟩) d.x d _ (lastsT _ _ (unhide HT) (unhide HBs _)) ((unhide HR).below ((Below.refl _ _).alloc (Nat.le_refl _) _)) (unhide HS) (unhide HW)).mono ?_
  rintro e w5 ⟨⟨u5, rfl, hv5⟩, hb5⟩
  obtain ⟨hc5, hf5⟩ := bcell hb5
  have hz5 := hb5.size
  simp at hz5 hv5
  have y5 : w.heap.size < w5.heap.size := by omega
  have z5 : w4.heap.size < w5.heap.size := by omega
  obtain ⟨p0, p1, p2, p3, p4, p5⟩ := a4
  have a5 : w5.cell? ⟨w.heap.size, 0, none⟩ = some (.slice la d.n lc) ∧ w5.cell? ⟨w.heap.size, 1, none⟩ = some (.slice ia d.m ic) ∧ w5.cell? ⟨w.heap.size, 2, none⟩ = some (.slice xa d.x xc) ∧ w5.cell? ⟨w.heap.size, 3, none⟩ = some (.int .i64 d.used) ∧ w5.cell? ⟨w.heap.size, 4, none⟩ = some (.int .i64 d.live) ∧ w5.cell? ⟨w.heap.size, 5, none⟩ = some (.int .i64 d.turns) := by
    refine ⟨?_, ?_, ?_, ?_, ?_, ?_⟩ <;> (rw [hc5 _ _ (by simp; omega), World.cell?_alloc_lt _ _ _ (by exact y4)]; assumption)
  have x5 : w5.cell? ⟨w4.heap.size, 0, none⟩ = some (.slice (some ⟨t0, 0, none⟩) d.n d.n) ∧ w5.cell? ⟨w4.heap.size, 1, none⟩ = some (.slice (some ⟨t1, 0, none⟩) d.m d.m) ∧ w5.cell? ⟨w4.heap.size, 2, none⟩ = some (.slice (some ⟨t2, 0, none⟩) d.x d.x) ∧ w5.cell? ⟨w4.heap.size, 3, none⟩ = some (.int .i64 d.used) ∧ w5.cell? ⟨w4.heap.size, 4, none⟩ = some (.int .i64 d.live) ∧ w5.cell? ⟨w4.heap.size, 5, none⟩ = some (.int .i64 d.turns) := by
    refine ⟨?_, ?_, ?_, ?_, ?_, ?_⟩ <;> (rw [hc5 _ _ (by simp)]; simp [go_sem])
  have HR5 := hide (((unhide HR).below ((Below.refl _ _).alloc (Nat.le_refl _) _)).below hb5)
  have HB5 := hide ((unhide HBs _).trans (hb5.mono (by simp; omega)))
  have HTR5 := hide (((unhide HTR).keep (fun q hq => ((Below.refl w4.heap.size w4).alloc (Nat.le_refl _) (.cells #[.slice (some ⟨t0, 0, none⟩) d.n d.n, .slice (some ⟨t1, 0, none⟩) d.m d.m, .slice (some ⟨t2, 0, none⟩) d.x d.x, .int .i64 d.used, .int .i64 d.live, .int .i64 d.turns] 26)).block q hq)).keep (fun q hq => hb5.block q hq))
  have HV35 := hide (((unhide HV4).below ((Below.refl w4.heap.size w4).alloc (Nat.le_refl _) (.cells #[.slice (some ⟨t0, 0, none⟩) d.n d.n, .slice (some ⟨t1, 0, none⟩) d.m d.m, .slice (some ⟨t2, 0, none⟩) d.x d.x, .int .i64 d.used, .int .i64 d.live, .int .i64 d.turns] 26)) (by omega)).below hb5 (by simp; omega))
  have HV5 : Hid (PrW d w5 u5 (w4.heap.size + 1) w5.heap.size) := hide (PrV.of hv5)
  clear hb5 hc5 hf5 HR hz5 p0 p1 p2 p3 p4 p5 HBs HTR HV4 hv5
  go_wp2_with fail
  refine (eqPrV (unhide HV5) (unhide HV35) hpn).mono ?_
  rintro e w6 ⟨rfl, hb6⟩
  have a6 := six6 hb6 y5 a5
  have x6 := six6 hb6 z5 x5
  have y6 := Nat.lt_of_lt_of_le y5 hb6.size
  have z6 := Nat.lt_of_lt_of_le z5 hb6.size
  have z56 := hb6.size
  have HR6 := hide ((unhide HR5).below hb6)
  have HB6 := hide ((unhide HB5).trans (hb6.mono (unhide HB5).size))
  have HTR6 := hide ((unhide HTR5).keep (fun q hq => hb6.block q hq))
  have HV36 := hide ((unhide HV35).below hb6 (by omega))
  have HV56 := hide ((unhide HV5).below hb6 (Nat.le_refl _))
  clear hb6 a5 x5 HR5 HB5 HTR5 HV35 HV5
  go_wp2
  have HBd : Hid (Below w.heap.size w w6.drew) := hide (unhide HB6).drew
  have HRd : Hid (DAt w6.drew (some ⟨t0, 0, none⟩) (some ⟨t1, 0, none⟩) (some ⟨t2, 0, none⟩) d) := hide ((unhide HR6).below (Below.refl _ _).drew)
  have HTRd : Hid (ToR w3.heap.size w6.drew t0 t1 t2 d) := hide ((unhide HTR6).keep fun q _ => rfl)
  have HV3d : Hid (PrW d w6.drew u3 w2.heap.size w3.heap.size) := hide ((unhide HV36).keep fun b _ _ => rfl)
  have HV5d : Hid (PrW d w6.drew u5 (w4.heap.size + 1) w5.heap.size) := hide ((unhide HV56).keep fun b _ _ => rfl)
  have pd : w6.drew.cell? ⟨w.heap.size, 0, none⟩ = some (.slice la d.n lc) ∧ w6.drew.cell? ⟨w.heap.size, 1, none⟩ = some (.slice ia d.m ic) ∧ w6.drew.cell? ⟨w.heap.size, 2, none⟩ = some (.slice xa d.x xc) ∧ w6.drew.cell? ⟨w.heap.size, 3, none⟩ = some (.int .i64 d.used) ∧ w6.drew.cell? ⟨w.heap.size, 4, none⟩ = some (.int .i64 d.live) ∧ w6.drew.cell? ⟨w.heap.size, 5, none⟩ = some (.int .i64 d.turns) := a6
  have qd : w6.drew.cell? ⟨w4.heap.size, 0, none⟩ = some (.slice (some ⟨t0, 0, none⟩) d.n d.n) ∧ w6.drew.cell? ⟨w4.heap.size, 1, none⟩ = some (.slice (some ⟨t1, 0, none⟩) d.m d.m) ∧ w6.drew.cell? ⟨w4.heap.size, 2, none⟩ = some (.slice (some ⟨t2, 0, none⟩) d.x d.x) ∧ w6.drew.cell? ⟨w4.heap.size, 3, none⟩ = some (.int .i64 d.used) ∧ w6.drew.cell? ⟨w4.heap.size, 4, none⟩ = some (.int .i64 d.live) ∧ w6.drew.cell? ⟨w4.heap.size, 5, none⟩ = some (.int .i64 d.turns) := x6
  clear a6 x6
  obtain ⟨p0, p1, p2, p3, p4, p5⟩ := pd
  obtain ⟨q0, q1, q2, q3, q4, q5⟩ := qd
  go_region_held3 (fun w' => w'.cell? ⟨w.heap.size, 0, none⟩ = some (.slice la d.n lc) ∧ w'.cell? ⟨w.heap.size, 1, none⟩ = some (.slice ia d.m ic) ∧ w'.cell? ⟨w.heap.size, 2, none⟩ = some (.slice xa d.x xc) ∧ w'.cell? ⟨w.heap.size, 3, none⟩ = some (.int .i64 d.used) ∧ w'.cell? ⟨w.heap.size, 4, none⟩ = some (.int .i64 d.live) ∧ w'.cell? ⟨w.heap.size, 5, none⟩ = some (.int .i64 d.turns) ∧ w'.cell? ⟨w4.heap.size, 0, none⟩ = some (.slice (some ⟨t0, 0, none⟩) d.n d.n) ∧ w'.cell? ⟨w4.heap.size, 1, none⟩ = some (.slice (some ⟨t1, 0, none⟩) d.m d.m) ∧ w'.cell? ⟨w4.heap.size, 2, none⟩ = some (.slice (some ⟨t2, 0, none⟩) d.x d.x) ∧ w'.cell? ⟨w4.heap.size, 3, none⟩ = some (.int .i64 d.used) ∧ w'.cell? ⟨w4.heap.size, 4, none⟩ = some (.int .i64 d.live) ∧ w'.cell? ⟨w4.heap.size, 5, none⟩ = some (.int .i64 d.turns)) (first | exact ⟨by assumption, by assumption, by assumption, by assumption, by assumption, by assumption, by assumption, by assumption, by assumption, by assumption, by assumption, by assumption⟩ | go_keep)
    (first
      | (go_at_call 30; refine (toDict_any la lc ia ic xa xc d _ ((unhide HA).below (unhide HBd)) (unhide HS)).mono ?_; rintro e w7 ⟨⟨v0, v1, v2, rfl, hrow7⟩, hb7⟩; obtain ⟨m0, m1, m2, m3, m4, m5⟩ := six6 hb7 y6 ⟨p0, p1, p2, p3, p4, p5⟩; obtain ⟨n0, n1, n2, n3, n4, n5⟩ := six6 hb7 z6 ⟨q0, q1, q2, q3, q4, q5⟩; have y7 := Nat.lt_of_lt_of_le y6 hb7.size; have z7 := Nat.lt_of_lt_of_le z6 hb7.size; have z67 : w6.heap.size ≤ w7.heap.size := hb7.size; have HR7 := hide hrow7; have HX7 := hide ((unhide HRd).below hb7); have HB7 := hide ((unhide HBd).trans (hb7.mono (unhide HBd).size)); have HTR7 := hide ((unhide HTRd).keep (fun q hq => hb7.block q hq)); have HV37 := hide ((unhide HV3d).below hb7 (by show _ ≤ w6.heap.size; omega)); have HV57 := hide ((unhide HV5d).below hb7 (by show _ ≤ w6.heap.size; omega)); clear hrow7 hb7)
      | (go_at_call 31; refine (eqDict_same (some ⟨t0, 0, none⟩) (some ⟨v0, 0, none⟩) (some ⟨t1, 0, none⟩) (some ⟨v1, 0, none⟩) (some ⟨t2, 0, none⟩) (some ⟨v2, 0, none⟩) d.n d.n d.m d.m d.x d.x d _ (unhide HX7) (unhide HR7) (unhide HS)).mono ?_; rintro e w8 ⟨rfl, hb8⟩; obtain ⟨m0', m1', m2', m3', m4', m5'⟩ := six6 hb8 y7 ⟨m0, m1, m2, m3, m4, m5⟩; obtain ⟨n0', n1', n2', n3', n4', n5'⟩ := six6 hb8 z7 ⟨n0, n1, n2, n3, n4, n5⟩; have z78 : w7.heap.size ≤ w8.heap.size := hb8.size; have HB8 := hide ((unhide HB7).trans (hb8.mono (unhide HB7).size)); have HTR8 := hide ((unhide HTR7).keep (fun q hq => hb8.block q hq)); have HV38 := hide ((unhide HV37).below hb8 (by omega)); have HV58 := hide ((unhide HV57).below hb8 (by omega)); clear hb8))
  clear HBd HRd HTRd HV3d HV5d HR7 HX7 HB7 HTR7 HV37 HV57 HR6 HB6 HTR6 HV36 HV56
  clear p0 p1 p2 p3 p4 p5 q0 q1 q2 q3 q4 q5 m0 m1 m2 m3 m4 m5 n0 n1 n2 n3 n4 n5
  go_wp2_with fail
  refine (markDict_any w3.heap.size t0 t1 t2 d.n d.m d.x d _ (unhide HTR8) (unhide HS)).mono ?_
  rintro e w9 ⟨⟨r9, rfl, hr9⟩, hb9⟩
  have z89 : w8.heap.size ≤ w9.heap.size := hb9.size
  have hb9' : Below w3.heap.size w8 w9 := hb9.below tb0 tb1 tb2 (by omega)
  have a9 := And.intro ((hb9'.cell (p := ⟨w.heap.size, 0, none⟩) y3).trans m0') (And.intro ((hb9'.cell (p := ⟨w.heap.size, 1, none⟩) y3).trans m1') (And.intro ((hb9'.cell (p := ⟨w.heap.size, 2, none⟩) y3).trans m2') (And.intro ((hb9'.cell (p := ⟨w.heap.size, 3, none⟩) y3).trans m3') (And.intro ((hb9'.cell (p := ⟨w.heap.size, 4, none⟩) y3).trans m4') ((hb9'.cell (p := ⟨w.heap.size, 5, none⟩) y3).trans m5')))))
  have HB9 := hide ((unhide HB8).trans (hb9'.mono (by omega)))
  have HV39 := hide ((unhide HV38).below hb9' (Nat.le_refl _))
  have HV59 := hide ((unhide HV58).keep (w' := w9) (fun b h1 h2 => hb9.block b (by omega) (by omega) (by omega) (by omega)))
  have hk9 : ¬ r9 < 0 := by omega
  clear hb9 hb9' HB8 HTR8 HV38 HV58 hr9
  clear m0' m1' m2' m3' m4' m5' n0' n1' n2' n3' n4' n5'
  have y9 : w.heap.size < w9.heap.size := by omega
  go_wp2_with fail
  refine (eqPrV (unhide HV59) (unhide HV39) hpn).mono ?_
  rintro e w10 ⟨rfl, hb10⟩
  have z910 : w9.heap.size ≤ w10.heap.size := hb10.size
  have a10 := six6 hb10 y9 a9
  have y10 := Nat.lt_of_lt_of_le y9 hb10.size
  have HB10 := hide ((unhide HB9).trans (hb10.mono (unhide HB9).size))
  have HV310 := hide ((unhide HV39).below hb10 (by omega))
  have HV510 := hide ((unhide HV59).below hb10 (by omega))
  clear hb10 a9 HB9 HV39 HV59
  go_wp2_with fail
  refine (markPrV (unhide HV510) (by omega) hpn).mono ?_
  rintro e w11 ⟨⟨rfl, hv11⟩, hb11⟩
  obtain ⟨q, hq⟩ : ∃ q : Int, q = 1 + 11 * (prsN d : Int) := ⟨_, rfl⟩
  have hq0 : ¬ q < 0 := by omega
  rw [← hq]
  have z1011 : w10.heap.size ≤ w11.heap.size := hb11.size
  have y11 := Nat.lt_of_lt_of_le y10 hb11.size
  have yb : w.heap.size < w4.heap.size + 1 := by omega
  obtain ⟨p0, p1, p2, p3, p4, p5⟩ := a10
  have a11 := And.intro ((hb11.cell (p := ⟨w.heap.size, 0, none⟩) yb).trans p0) (And.intro ((hb11.cell (p := ⟨w.heap.size, 1, none⟩) yb).trans p1) (And.intro ((hb11.cell (p := ⟨w.heap.size, 2, none⟩) yb).trans p2) (And.intro ((hb11.cell (p := ⟨w.heap.size, 3, none⟩) yb).trans p3) (And.intro ((hb11.cell (p := ⟨w.heap.size, 4, none⟩) yb).trans p4) ((hb11.cell (p := ⟨w.heap.size, 5, none⟩) yb).trans p5)))))
  have HB11 := hide ((unhide HB10).trans (hb11.mono (by omega)))
  have HV311 := hide ((unhide HV310).below hb11 (by omega))
  have HM11 := hide hv11
  have HQ := hide hq
  clear hb11 p0 p1 p2 p3 p4 p5 HB10 HV310 HV510 hv11 hq
  go_wp2_with fail
  refine (heldPrV (unhide HM11) hpn).mono ?_
  rintro e w12 ⟨rfl, hb12⟩
  rw [← unhide HQ]
  have z1112 : w11.heap.size ≤ w12.heap.size := hb12.size
  have a12 := six6 hb12 y11 a11
  have y12 := Nat.lt_of_lt_of_le y11 hb12.size
  have HB12 := hide ((unhide HB11).trans (hb12.mono (unhide HB11).size))
  have HV312 := hide ((unhide HV311).below hb12 (by omega))
  have HM12 := hide ((unhide HM11).below hb12 (by omega))
  clear hb12 a11 HB11 HV311 HM11
  obtain ⟨p0, p1, p2, p3, p4, p5⟩ := a12
  go_wp2_with fail
  refine (toDict_any la lc ia ic xa xc d _ ((unhide HA).below (unhide HB12)) (unhide HS)).mono ?_
  rintro e w13 ⟨⟨f0, f1, f2, rfl, hrow13⟩, hb13⟩
  have z1213 : w12.heap.size ≤ w13.heap.size := hb13.size
  have HB13 := hide ((unhide HB12).trans (hb13.mono (unhide HB12).size))
  have HV313 := hide ((unhide HV312).below hb13 (by omega))
  have HM13 := hide ((unhide HM12).below hb13 (by omega))
  have HR13 := hide hrow13
  clear hb13 HB12 HV312 HM12 hrow13 p0 p1 p2 p3 p4 p5
  go_wp2_with fail
  refine (implPairs (some ⟨f0, 0, none⟩) d.n (some ⟨f1, 0, none⟩) d.m (some ⟨f2, 0, none⟩) d.x d _ (lastsT _ _ (unhide HT) (unhide HB13)) (unhide HR13) (unhide HS) (unhide HW)).mono ?_
  rintro e w14 ⟨⟨u14, rfl, hv14⟩, hb14⟩
  have z1314 : w13.heap.size ≤ w14.heap.size := hb14.size
  have HB14 := hide ((unhide HB13).trans (hb14.mono (unhide HB13).size))
  have HV314 := hide ((unhide HV313).below hb14 (by omega))
  have HM14 := hide ((unhide HM13).below hb14 (by omega))
  have HV14 : Hid (PrW d w14 u14 w13.heap.size w14.heap.size) := hide (PrV.of hv14)
  clear hb14 HB13 HV313 HM13 HR13 hv14
  go_wp2_with fail
  refine (eqPrV (unhide HV14) (unhide HV314) hpn).mono ?_
  rintro e w15 ⟨rfl, hb15⟩
  have z1415 : w14.heap.size ≤ w15.heap.size := hb15.size
  have HB15 := hide ((unhide HB14).trans (hb15.mono (unhide HB14).size))
  have HM15 := hide ((unhide HM14).below hb15 (by omega))
  clear hb15 HB14 HM14 HV14 HV314
  go_wp2_with fail
  refine (heldPrV (unhide HM15) hpn).mono ?_
  rintro e w16 ⟨rfl, hb16⟩
  rw [← unhide HQ]
  have HB16 := hide ((unhide HB15).trans (hb16.mono (unhide HB15).size))
  clear hb16 HB15 HM15
  go_wp2
  go_ret
  exact ⟨rfl, unhide HB16⟩
end Go.Proofs.YtglcaejddckleaaGreatDoor
