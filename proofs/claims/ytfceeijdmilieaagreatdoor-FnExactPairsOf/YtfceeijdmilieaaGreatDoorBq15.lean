/-
  DpA, DpB, DpC.
-/
import Derived.Test.YtfceeijdmilieaaGreatDoorDkNP
import Derived.Stop.RegionWithIn
namespace Go.Proofs.YtfceeijdmilieaaGreatDoor
open Go.RowKit
set_option linter.unusedVariables false
attribute [local go_sem] run_store_float run_equalIn_float

/-- The living pairs, in their order. -/
def lvF (d : Dc) (j : Nat) : Pr := d.L ((livL d d.n).getD j 0)
/-- How many live. -/
def lvN (d : Dc) : Nat := (livL d d.n).length
theorem lvF_at {d : Dc} {k : Nat} (hk : k < d.n) (h : (d.L k).turn ≠ 0) : lvF d (livL d k).length = d.L k := by
  unfold lvF
  obtain ⟨r, hr⟩ := livL_prefix (d := d) (k := k + 1) (n := d.n) (by omega)
  rw [livL_live h] at hr
  rw [← hr]
  simp [List.getD]
theorem lvN_le (d : Dc) : lvN d ≤ d.n := livL_le d d.n

open Classical in
/-- What is told of the pairs: none when the dict is not sound. -/
noncomputable def prsN (d : Dc) : Nat := if dictOk d (hD d) = 0 then lvN d else 0
theorem prsN_le (d : Dc) : prsN d ≤ d.n := by
  unfold prsN
  split
  · exact lvN_le d
  · omega

theorem news_after (wr : World) (o1 : Obj) (cs : List Value) (t : TypeId) : ∀ j u, cs[j]? = some u → ((wr.alloc o1).alloc (.cells cs.toArray t)).cell? ((⟨wr.heap.size + 1, 0, none⟩ : Addr).add j) = some u := by
  have hb := Deep.blk_alloc_new (wr.alloc o1) (.cells cs.toArray t)
  have hz : (wr.alloc o1).heap.size = wr.heap.size + 1 := by simp
  rw [hz] at hb
  exact World.news_of_block hb

set_option maxRecDepth 100000 in
set_option maxHeartbeats 4000000 in
theorem l1pairs_any (la : Option Addr) (lc : Nat) (ia : Option Addr) (ic : Nat) (xa : Option Addr) (xc : Nat) (d : Dc) (w : World) (hP : PAt w la d.n d.L) (hS : Small d) (h2 : D2 d) :
    Calls Tryz.prog 114 #[Dv la lc ia ic xa xc d] w fun e w' => (∃ v, e = .returned v ∧ POwn w' w.heap.size v (lvN d) (lvF d)) ∧ Below w.heap.size w w' := by
  obtain ⟨i0, hi, hz0, hz1, hz2⟩ := info_parts infoPair
  have hn := hS.n
  have HP := hide hP
  have H2 := hide h2
  clear hP hS h2
  go_enter Tryz.func114, Tryz.ntmps114
  go_wp2
  go_loopw [9, 3] (fun i o wr => ∃ (k : Nat) (v : Value), k ≤ d.n ∧ i = .int .i64 k ∧ v = o ∧ POwn wr w.heap.size v (livL d k).length (lvF d) ∧ Below w.heap.size w wr) (fun i o _ => d.n - (intOf i).toNat)
  case atStart => exact ⟨0, _, by omega, rfl, rfl, World.ownsRow_nil _ _ _ _, (Below.refl _ _).alloc (Nat.le_refl _) _⟩
  case round =>
    obtain ⟨k, v, hk, rfl, rfl, ho, hb⟩ := hrel
    by_cases hkn : k < d.n
    · obtain ⟨b, off, rfl, hlt, hcs⟩ := (unhide HP).resolve_left (by omega)
      obtain ⟨e0, e1, e2, e3, e4, e5, e6, e7, e8, e9, e10⟩ := (hcs k hkn).keep (fun q => hb.cell (p := ⟨b, q, none⟩) hlt)
      have hws := hb.size
      have hml := livL_le d k
      have HB := hide hb
      have HO := hide ho
      clear hcs hb ho
      by_cases hp : 0 < (d.L k).turn
      · have hne : (d.L k).turn ≠ 0 := by omega
        have HF := hide (lvF_at hkn hne)
        have HN := hide (livL_live hne)
        have hdp : decide (0 < (d.L k).turn) = true := by simp [hp]
        have hltv := hide (unhide HO).lt
        clear hne
        go_wp2_with (first | (at_builtin; refine wpList_append_lies _ rfl _ _ 55 rfl w.heap.size 127 i0 PZ 11 104 Tryz.underlying55 hi hz0 hz1 hz2 rfl (by decide) v (livL d k).length (pL (lvF d) (livL d k).length) rfl (((unhide HO).alloc _).alloc _) ⟨wr.heap.size + 1, 0, none⟩ 1 1 (prL (d.L k)) rfl rfl (news_after wr _ (prL (d.L k)) _) (prL_one _) (by decide) (by unfold maxLen; omega) (by omega) (by simp; omega) _ rfl ?_; intro g3 cp3 w3 hown3 hgr3 hloc3 hlt3; have HG3 := hide ((((unhide HB).alloc (by omega) _).alloc (by simp; omega) _).trans (grown_below hgr3 (fun q e => (unhide hltv q e).1) (by simp; omega))); have HO3 := hide hown3; clear hown3 hgr3) | go_in)
        go_roundw
        case rel =>
          refine ⟨k + 1, _, by omega, by go_num, rfl, ?_, unhide HG3⟩
          have h := unhide HO3
          rw [unhide HN, List.length_append, List.length_singleton]
          show w3.ownsRow w.heap.size _ 11 _ _ (pL (lvF d) (livL d k).length ++ prL (lvF d (livL d k).length))
          rw [unhide HF]
          exact h
        case measure => simp [intOf]; omega
      · have hz0' : (d.L k).turn = 0 := by
          rcases (unhide H2).entry hkn with h | h
          · exact h.1
          · exact absurd h.1 hp
        have HN : Hid (livL d (k + 1) = livL d k) := hide (livL_dead hz0')
        clear hp
        rw [hz0'] at e10
        clear hz0'
        go_wp2
        go_roundw
        case rel =>
          refine ⟨k + 1, _, by omega, by go_num, rfl, ?_, (unhide HB).alloc hws _⟩
          rw [unhide HN]
          exact (unhide HO).alloc _
        case measure => simp [intOf]; omega
    · have hkn' : k = d.n := by omega
      subst hkn'
      have HB := hide hb
      have HO := hide ho
      clear hb ho
      go_wp2
      go_ret
      exact ⟨⟨_, rfl, unhide HO⟩, unhide HB⟩

end Go.Proofs.YtfceeijdmilieaaGreatDoor
namespace Go.Proofs.YtfceeijdmilieaaGreatDoor
open Go.RowKit Go.Shelf
set_option linter.unusedVariables false
attribute [local go_sem] run_store_float run_equalIn_float Oper.semAt_some

/-- All blocks below n0 but p lie as they lay. -/
structure KpB (p n0 : Nat) (A B : World) : Prop where
  size : A.heap.size ≤ B.heap.size
  block : ∀ b, b < n0 → b ≠ p → B.heap[b]? = A.heap[b]?
theorem KpB.refl (p n0 : Nat) (A : World) : KpB p n0 A A := ⟨Nat.le_refl _, fun _ _ _ => rfl⟩
theorem KpB.trans {p n0 : Nat} {A B C : World} (h : KpB p n0 A B) (k : KpB p n0 B C) : KpB p n0 A C := ⟨Nat.le_trans h.size k.size, fun b h1 h2 => (k.block b h1 h2).trans (h.block b h1 h2)⟩
theorem KpB.put {p n0 : Nat} {w : World} (hn : n0 ≤ w.heap.size) (W : World) (l : Nat) (o o' : Obj) (hl : w.heap.size ≤ l) (h : W.heap[l]? = some o) (_ : o.isCells = false) (_ : o.isWalk = false) : KpB p n0 W (W.putObj l o') := by
  have hb := (Below.refl n0 W).grown (grownBy_putObj' W l o') (by have := (Array.getElem?_eq_some_iff.1 h).1; omega) (fun k e => by cases e; omega)
  exact ⟨hb.size, fun b h1 _ => hb.block b h1⟩

theorem kept_cells {A B : World} {row : Option Nat} {b : Nat} {c : Array Value} {t : TypeId} {fz : Nat × Nat} {D : Nat} (h : A.heap[b]? = some (.cells c t fz)) (hg : A.grownBy B row) (hr : ∀ r, row = some r → D ≤ r ∧ ∃ o : Obj, A.heap[r]? = some o ∧ o.isCells = false) : B.heap[b]? = A.heap[b]? :=
  hg.block b (Array.getElem?_eq_some_iff.1 h).1 (fun e => by
    obtain ⟨_, o, ho, hc⟩ := hr b e.symm
    rw [h] at ho
    cases ho
    cases hc)
theorem own_keptO {A B : World} {row : Option Nat} {D base e size : Nat} {v : Value} {n : Nat} {xs : List Value} (h : A.ownsRow base e size v n xs) (hg : A.grownBy B row) (hr : ∀ r, row = some r → D ≤ r ∧ ∃ o : Obj, A.heap[r]? = some o ∧ o.isCells = false) : B.ownsRow base e size v n xs := by
  obtain ⟨hl, h | ⟨g, cap, cur, h1, h2, h3, h4⟩⟩ := h
  · exact ⟨hl, .inl h⟩
  · exact ⟨hl, .inr ⟨g, cap, cur, h1, h2, (kept_cells h3 hg hr).trans h3, h4⟩⟩

section
variable {P : Program}
/-- append, in a round of a range over a function. -/
theorem wpIn_append_lies (w : World) {l n' : Nat} {o : Oper} {a : Act} {K : Act → World → Prop} {Q : Exit → Act → World → Prop} (s x : Operand) (t : TypeId)
    (ho : o.op = .call { callee := .builtin .append, args := #[s, x], argTypes := #[t, t] })
    (base : Nat) (e : TypeId) (i : TypeInfo) (z : Value) (size bytes : Nat) (ht : P.underlying t = some (.slice e)) (hi : P.info? e = some i) (hz : i.zero = some z)
    (hsize : i.size = size) (hby : i.bytes = bytes) (hzs : z.cells.size = size) (hsz : 0 < size)
    (v : Value) (n : Nat) (xs : List Value) (hs : a.eval s = v) (hown : w.ownsRow base e size v n xs)
    (ad : Addr) (m c : Nat) (news : List Value) (hx : a.eval x = .slice (some ad) m c) (hl : news.length = m * size) (hnews : ∀ j u, news[j]? = some u → w.cell? (ad.add j) = some u) (h1 : ∀ u ∈ news, u.oneCell' = true)
    (hm : 0 < m) (h63 : n + m ≤ maxLen) (hbytes : (n + m) * bytes ≤ 140737488355328) (hbase : base ≤ w.heap.size) (H : Nat) (hH : w.heap.size = H)
    (h : ∀ g cap w', w'.ownsRow base e size (.slice (some ⟨g, 0, none⟩) (n + m) cap) (n + m) (xs ++ news) → w.grownBy w' v.ownBlock → (v.ownBlock = some g ∨ g = H) → g < w'.heap.size → K (a.put o.dst (.slice (some ⟨g, 0, none⟩) (n + m) cap)) w') : o.wpIn (Fence.wide.inRound l) n' P a w K Q := by
  obtain ⟨g, cap, w', hr, h2, h3, h4, h5⟩ := run_append_lies (P := P) w t o.type base e i z size bytes ht hi hz hsize hby hzs hsz v n xs hown ad m c news hl hnews h1 hm h63 hbytes hbase H hH
  refine ⟨fun _ _ => trivial, ?_⟩
  show o.uponIn (Fence.wide.inRound l) n' P a K Q ((o.semAt (some l) a.eval).run P w)
  rw [Oper.semAt_some l _ _ (fun c e => by rw [ho] at e; cases e)]
  unfold execOp
  simp only [ho, resolve, invoke, builtin, Sem.run_bind, Sem.run_pure, Result.andThen_ok, List.map_toArray, List.map_cons, List.map_nil, hs, hx, hr]
  exact h g cap w' h2 h3 h4 h5
end

set_option maxRecDepth 100000 in
set_option maxHeartbeats 2000000 in
theorem living_stopsP (n : Nat) (hn : 1 ≤ n) (bk R0 R1 R2 mb p n0 : Nat) (E S : Nat → Nat) (d : Dc) (w : World) (hB : Book w bk R0 R1 R2 E S d) (hS : Small d) (hR : 0 < d.n → R0 < n0 ∧ R0 ≠ p) (hE : ∀ i, i < d.n → E i < n0 ∧ E i ≠ p)
    (m0 : w.cell? ⟨mb, 0, none⟩ = some (.pointer (some ⟨bk, 0, none⟩))) :
    SeqStopsK Fence.wide n Tryz.prog 217 #[.pointer (some ⟨mb, 0, none⟩)] (fun a : Liv d => #[.pointer (some ⟨E a.1, 0, none⟩)]) (KpB p n0)
      (LvAll d) (LvPre d) d.n w := fun l J Jx W hW hJ hJx hY h0 => by
  have lm := World.block_lt_of_cell? _ _ m0
  have m0 := (hW.cell (p := ⟨mb, 0, none⟩) lm).trans m0
  have hBk := hB.below hW
  obtain ⟨a0, k0, c0, ha0⟩ := hBk.c0
  have HA0 := hide ha0
  clear ha0
  have lb := hBk.lt
  have hnn := hS.n
  have HY := hide hY
  have H0 := hide h0
  have HBk := hide hBk
  have HE := hide hE
  clear hJx hJ hY hW h0 hBk hB hS hE
  refine callsIn_of_wp Tryz.func217 rfl trivial ?_ rfl
  simp only [Tryz.ntmps217, List.size_toArray, List.length_cons, List.length_nil, Nat.reduceAdd, Nat.reduceSub, Array.replicate_succ, Array.replicate_zero, List.push_toArray, List.append_toArray, List.nil_append, List.cons_append]
  gi_wp2
  gi_loopw [10] (fun i wr => ∃ (k : Nat) (pre : List (Liv d)), k ≤ d.n ∧ i = .int .i64 (k : Int) ∧ LvTo d k pre ∧ J pre wr ∧ KpB p n0 W wr) (fun i _ => d.n - (intOf i).toNat)
  case atStart => exact ⟨0, [], by omega, rfl, rfl, unhide H0, KpB.refl _ _ _⟩
  case round =>
    obtain ⟨k, pre, hk, rfl, hlv, hJp, hbw⟩ := hrel
    by_cases hkn : k < d.n
    · obtain rfl := unhide HA0 (by omega)
      have p0 := (World.cell?_of_block (a := ⟨R0, k, none⟩) (hbw.block _ (hR (by omega)).1 (hR (by omega)).2)).trans ((unhide HBk).r0 k hkn)
      have t0 := (World.cell?_of_block (a := ⟨E k, 10, none⟩) (hbw.block _ (unhide HE k hkn).1 (unhide HE k hkn).2)).trans ((unhide HBk).ent k hkn).tn
      have HLV := hide hlv
      have HBW := hide hbw
      clear hlv hbw
      by_cases ht : (d.L k).turn = 0
      · have HN : Hid (LvTo d (k + 1) pre) := hide (by unfold LvTo; rw [livL_dead ht]; exact unhide HLV)
        rw [ht] at t0
        clear ht
        gi_wp2
        refine ⟨fun _ h => (by cases h), ?_⟩
        gi_wp2
        go_roundw
        case rel => exact ⟨k + 1, pre, by omega, by go_num, unhide HN, hJp, unhide HBW⟩
        case measure => simp [intOf]; omega
      · have ht' : ((d.L k).turn != 0) = true := by simp [ht]
        obtain ⟨fn, tmps, assign, body, hy, hRR⟩ := unhide HY pre ⟨k, hkn, ht⟩ wr hJp (by
          have h1 : (pre.map (·.1)).length = (livL d k).length := congrArg List.length (unhide HLV)
          rw [List.length_map] at h1
          have := livL_le d k
          omega)
        have HN : Hid (LvTo d (k + 1) (pre ++ [⟨k, hkn, ht⟩])) := hide (by
          unfold LvTo
          rw [livL_live ht, List.map_append, show pre.map (·.1) = livL d k from unhide HLV]
          rfl)
        have HR := hide hRR
        clear hRR hJp
        dsimp only at hy
        gi_wp2
        refine (unhide HR).mono ?_
        rintro e W3 (⟨rfl, hJ3, hk3⟩ | ⟨rfl, hJx3⟩)
        · clear HR hy
          gi_wp2
          go_roundw
          case rel => exact ⟨k + 1, _, by omega, by go_num, unhide HN, hJ3, (unhide HBW).trans hk3⟩
          case measure => simp [intOf]; omega
        · clear HR hy
          gi_wp2
          refine bodyPost_ret (results_none rfl _ _ _) rfl ?_
          exact ⟨⟨_, rfl⟩, .inr ⟨_, (unhide HN).pre (by omega), hJx3⟩⟩
    · have hkn' : k = d.n := by omega
      subst hkn'
      have HS := hide hlv
      clear hlv
      gi_wp2
      go_end0
      exact ⟨⟨_, rfl⟩, .inl ⟨pre, unhide HS, hJp⟩⟩
end Go.Proofs.YtfceeijdmilieaaGreatDoor
namespace Go.Proofs.YtfceeijdmilieaaGreatDoor
open Go.RowKit Go.Shelf
set_option linter.unusedVariables false
attribute [local go_sem] run_store_float run_equalIn_float Oper.semAt_some

/-- The pairs that have come. -/
def preF (d : Dc) (pre : List (Liv d)) (j : Nat) : Pr := d.L ((pre.map (·.1)).getD j 0)
theorem pL_congr {f g : Nat → Pr} {n : Nat} (h : ∀ j, j < n → f j = g j) : pL f n = pL g n := by
  induction n with
  | zero => rfl
  | succ n ih => show pL f n ++ prL (f n) = pL g n ++ prL (g n); rw [ih (fun j hj => h j (by omega)), h n (by omega)]
theorem preF_snoc (d : Dc) (pre : List (Liv d)) (x : Liv d) : pL (preF d pre) pre.length ++ prL (d.L x.1) = pL (preF d (pre ++ [x])) (pre.length + 1) := by
  show _ = pL (preF d (pre ++ [x])) pre.length ++ prL (preF d (pre ++ [x]) pre.length)
  rw [pL_congr (f := preF d (pre ++ [x])) (g := preF d pre) (fun j hj => by
    unfold preF
    rw [List.map_append, List.getD_eq_getElem?_getD, List.getD_eq_getElem?_getD, List.getElem?_append_left (by simpa using hj)])]
  congr 2
  unfold preF
  rw [List.map_append]
  simp [List.getD]
theorem preF_all {d : Dc} {pre : List (Liv d)} (h : pre.map (·.1) = livL d d.n) : preF d pre = lvF d := by
  funext j
  unfold preF lvF
  rw [h]

/-- Between two rounds. -/
def PrI (w u : World) (p n0 : Nat) (d : Dc) (pre : List (Liv d)) (W : World) : Prop :=
  ∃ v, W.rowIs p 55 1 (fun _ => v) ∧ POwn W n0 v pre.length (preF d pre) ∧ KpB p n0 u W ∧ Below w.heap.size w W
theorem PrI.own (w u : World) (p n0 D : Nat) (d : Dc) (hn : n0 ≤ D) (hu : n0 ≤ u.heap.size) (hw : w.heap.size ≤ D) : OwnFrom D (PrI w u p n0 d) := by
  rintro pre A B row ⟨v, h1, h2, h3, h4⟩ hg hr
  refine ⟨v, ?_, own_keptO h2 hg hr, ⟨Nat.le_trans h3.size hg.size, fun b hb hp => ?_⟩, h4.grown hg h4.size (fun k e => Nat.le_trans hw (hr k e).1)⟩
  · obtain ⟨c, hb, hc⟩ := h1
    exact World.rowIs.of_block ⟨c, hb, hc⟩ (kept_cells hb hg hr)
  · have hl : b < A.heap.size := Nat.lt_of_lt_of_le hb (Nat.le_trans hu h3.size)
    exact (hg.block b hl (fun e => by have := (hr b e.symm).1; omega)).trans (h3.block b hb hp)

theorem grown_fromP {W w3 : World} {o : Obj} {row : Option Nat} (h : (W.drew.alloc o).grownBy w3 row) : W.grownBy w3 row :=
  ⟨h.os, h.tape, h.output, by have := h.size; simp at this; omega, fun b hb hr => (h.block b (by simp; omega) hr).trans (Deep.blk_alloc_lt _ _ _ hb)⟩

set_option maxRecDepth 100000 in
set_option maxHeartbeats 4000000 in
theorem implPairs (la : Option Addr) (lc : Nat) (ia : Option Addr) (ic : Nat) (xa : Option Addr) (xc : Nat) (d : Dc) (w : World) (hT : Tabs w) (hA : DAt w la ia xa d) (hS : Small d) (hW : WfD d) :
    Calls Tryz.prog 120 #[Dv la lc ia ic xa xc d] w fun e w' => (∃ v, e = .returned v ∧ POwn w' w.heap.size v (prsN d) (lvF d)) ∧ Below w.heap.size w w' := by
  obtain ⟨i0, hi0, hz0, hz1, hz2⟩ := info_parts infoPair
  have hdn := hS.n
  have HA := hide hA
  have HS := hide hS
  have HW := hide hW
  have HT := hide hT
  clear hA hS hW hT
  have hb0 : Below w.heap.size w (w.alloc (.cells #[.slice la d.n lc, .slice ia d.m ic, .slice xa d.x xc, .int .i64 d.used, .int .i64 d.live, .int .i64 d.turns] 91)) := (Below.refl _ _).alloc (Nat.le_refl _) _
  have HB0 := hide hb0
  clear hb0
  refine (callsIn_wide (n := 20)).1 ?_
  refine callsIn_of_wp_marks Tryz.func120 rfl trivial ?_ rfl
  simp only [Tryz.ntmps120, List.size_toArray, List.length_cons, List.length_nil, Nat.reduceAdd, Nat.reduceSub, Array.replicate_succ, Array.replicate_zero, List.push_toArray, List.append_toArray, List.nil_append, List.cons_append]
  gi_wp2_with fail
  refine ⟨trivial, ?_⟩
  refine (callsIn_wide.2 (implOk la lc ia ic xa xc d _ (lastsT _ _ (unhide HT) (unhide HB0)) ((unhide HA).below (unhide HB0)) (unhide HS) (unhide HW))).mono ?_
  rintro e w1 ⟨rfl, hb1⟩
  obtain ⟨hc1, hf1⟩ := bcell hb1
  have hz1' := hb1.size
  simp at hz1'
  have y0 : w.heap.size < w1.heap.size := by omega
  have q0 : w1.cell? ⟨w.heap.size, 0, none⟩ = some (.slice la d.n lc) := by rw [hc1 _ _ (by simp)]; simp [go_sem]
  have q1 : w1.cell? ⟨w.heap.size, 1, none⟩ = some (.slice ia d.m ic) := by rw [hc1 _ _ (by simp)]; simp [go_sem]
  have q2 : w1.cell? ⟨w.heap.size, 2, none⟩ = some (.slice xa d.x xc) := by rw [hc1 _ _ (by simp)]; simp [go_sem]
  have q3 : w1.cell? ⟨w.heap.size, 3, none⟩ = some (.int .i64 d.used) := by rw [hc1 _ _ (by simp)]; simp [go_sem]
  have q4 : w1.cell? ⟨w.heap.size, 4, none⟩ = some (.int .i64 d.live) := by rw [hc1 _ _ (by simp)]; simp [go_sem]
  have q5 : w1.cell? ⟨w.heap.size, 5, none⟩ = some (.int .i64 d.turns) := by rw [hc1 _ _ (by simp)]; simp [go_sem]
  have HB1 := hide ((unhide HB0).trans (hb1.mono (unhide HB0).size))
  clear hb1 hc1 hf1 hz1'
  by_cases hk : dictOk d (hD d) = 0
  case neg =>
    have HR : Hid (prsN d = 0) := hide (if_neg hk)
    have hk' : (dictOk d (hD d) != 0) = true := by simp [hk]
    clear hk
    generalize dictOk d (hD d) = ok at hk'
    gi_wp2
    refine ⟨.slice none 0 0, ?_, ⟨_, rfl, by rw [unhide HR]; exact World.ownsRow_nil _ _ _ _⟩, unhide HB1⟩
    simp [results, Tryz.f120]
  have HR : Hid (prsN d = lvN d) := hide (if_pos hk)
  have HSd := hide (sound_of hk)
  rw [hk]
  clear hk
  have HBs : Hid (∀ o, Below w.heap.size w (w1.alloc o)) := hide (fun o => (unhide HB1).alloc (by omega) _)
  gi_wp2_with fail
  refine ⟨trivial, ?_⟩
  refine (callsIn_wide.2 (openBook_any la lc ia ic xa xc d _ ((unhide HA).below (unhide HBs _)) (unhide HS) (unhide HSd).d3 (unhide HSd).d4)).mono ?_
  rintro e w2 ⟨⟨bk, R0, R1, R2, E, S, rfl, hBk⟩, hb2⟩
  have hz2' := hb2.size
  simp at hz2'
  have yp : w1.heap.size < w2.heap.size := by omega
  have hp2 : w2.rowIs w1.heap.size 55 1 (fun _ => .slice none 0 0) := World.rowIs.of_block (World.rowIs_alloc w1 #[.slice none 0 0] 55 (fun _ => .slice none 0 0) (fun i hi => by
      have : i = 0 := by simpa using hi
      subst this
      rfl)) (hb2.block _ (by simp))
  have HB2 := hide ((unhide HBs _).trans (hb2.mono (unhide HBs _).size))
  have HBk := hide hBk
  have HP2 := hide hp2
  clear hb2 hBk hp2
  gi_wp2_with fail
  refine ⟨trivial, ?_⟩
  refine (callsIn_wide.2 (living_any bk _)).mono ?_
  rintro e w4 ⟨rfl, rfl⟩
  gi_wp2_with fail
  obtain ⟨u, hu⟩ : ∃ u, u = w2.alloc (.cells #[.pointer (some ⟨bk, 0, none⟩)] 256) := ⟨_, rfl⟩
  rw [← hu]
  have zu : u.heap.size = w2.heap.size + 1 := by rw [hu]; simp
  have b2u : Below w2.heap.size w2 u := by rw [hu]; exact (Below.refl _ _).alloc (Nat.le_refl _) _
  have mb0 : u.cell? ⟨w2.heap.size, 0, none⟩ = some (.pointer (some ⟨bk, 0, none⟩)) := by rw [hu]; simp [go_sem]
  clear hu
  have hBu := (unhide HBk).below b2u
  have hpu : u.rowIs w1.heap.size 55 1 (fun _ => .slice none 0 0) := (unhide HP2).of_block (b2u.block _ yp)
  have bwu : Below w.heap.size w u := (unhide HB2).trans (b2u.mono (unhide HB2).size)
  have ypu : w1.heap.size < u.heap.size := by omega
  have c0u : u.cell? ⟨w1.heap.size, 0, none⟩ = some (.slice none 0 0) := hpu.cell (i := 0) (by omega)
  have hRp : 0 < d.n → R0 < u.heap.size ∧ R0 ≠ w1.heap.size := fun h0 => ⟨hBu.l0, fun e => by
    have := hBu.r0 0 h0
    rw [e, c0u] at this
    cases this⟩
  have hEp : ∀ i, i < d.n → E i < u.heap.size ∧ E i ≠ w1.heap.size := fun i hi => ⟨(hBu.ent i hi).lt, fun e => by
    have := (hBu.ent i hi).k0
    rw [e, c0u] at this
    cases this⟩
  have hwu : w.heap.size ≤ u.heap.size := bwu.size
  clear zu HBk b2u q0 q1 q2 q3 q4 q5 c0u
  refine wpIn_rangeFunc_ownF rfl (by decide) (gf := 217) (lb := #[.pointer (some ⟨w2.heap.size, 0, none⟩)]) rfl trivial (enters_of Tryz.func217 (by kernel_rfl) rfl)
    (living_stopsP 19 (by decide) bk R0 R1 R2 w2.heap.size w1.heap.size u.heap.size E S d u hBu (unhide HS) hRp hEp mb0) KpB.trans (KpB.put (Nat.le_refl _)) (Below.refl _ _) (fun _ => rfl)
    (PrI w u w1.heap.size u.heap.size d)
    (fun c pre W => False)
    (PrI.own w u w1.heap.size u.heap.size u.heap.size d (Nat.le_refl _) (Nat.le_refl _) hwu)
    (fun c _ _ _ _ h => h.elim)
    ⟨.slice none 0 0, hpu, World.ownsRow_nil _ _ _ _, KpB.refl _ _ _, bwu⟩
    ?a1 ?assign ?body ?done ?stop
  case assign =>
    intro l x W K hK
    gi_wp2
    exact hK
  case body =>
    rintro l pre ⟨i, hi, ht⟩ W ⟨v, hp, hown, hkp, hbw⟩ hlen
    have hblk := hkp.block (E i) (hEp i hi).1 (hEp i hi).2
    obtain ⟨hel, k0, k1, k2, k3, k4, v0, v1, v2, v3, v4, tn, _, _⟩ := (hBu.ent i hi).keep hkp.size hblk
    have x0 := hp.cell (i := 0) (by omega)
    have fx := hp.frozen 0
    have hpl := hp.lt
    have hln := hown.lt
    have HOW := hide hown
    have HKP := hide hkp
    have HBW := hide hbw
    have HP := hide hp
    have hpre : pre.length ≤ d.n := by omega
    have hWs : u.heap.size ≤ W.heap.size := (unhide HKP).size
    have HOWd : Hid (POwn W.drew u.heap.size v pre.length (preF d pre)) := hide (unhide HOW).drew
    have HSN := hide (preF_snoc d pre ⟨i, hi, ht⟩)
    have HAPP : Hid (∀ (g3 cp3 : Nat) (w3 : World), w3.ownsRow u.heap.size 127 11 (.slice (some ⟨g3, 0, none⟩) (pre.length + 1) cp3) (pre.length + 1) (pL (preF d pre) pre.length ++ prL (d.L i)) → W.grownBy w3 v.ownBlock → (w3.cell? ⟨w1.heap.size, 0, none⟩ = some v ∧ w3.frozen? ⟨w1.heap.size, 0, none⟩ = false) ∧ KeepsOthers W (w3.setCell ⟨w1.heap.size, 0, none⟩ (.slice (some ⟨g3, 0, none⟩) (pre.length + 1) cp3)) ∧ KpB w1.heap.size u.heap.size W (w3.setCell ⟨w1.heap.size, 0, none⟩ (.slice (some ⟨g3, 0, none⟩) (pre.length + 1) cp3)) ∧
        PrI w u w1.heap.size u.heap.size d (pre ++ [⟨i, hi, ht⟩]) (w3.setCell ⟨w1.heap.size, 0, none⟩ (.slice (some ⟨g3, 0, none⟩) (pre.length + 1) cp3))) := hide (fun g3 cp3 w3 h1 h2 => by
      have hp1 : w3.rowIs w1.heap.size 55 1 (fun _ => v) := (unhide HP).of_block (h2.block _ hpl (fun e => by have := ((unhide HOW).lt _ e.symm).1; omega))
      have hg3 := (World.ownsRow.lt h1 g3 rfl).1
      have hkp : KpB w1.heap.size u.heap.size W (w3.setCell ⟨w1.heap.size, 0, none⟩ (.slice (some ⟨g3, 0, none⟩) (pre.length + 1) cp3)) := ⟨by simpa using h2.size, fun b h1 h2' => (Deep.blk_setCell_other _ _ _ _ (by exact h2')).trans (h2.block b (by omega) (fun e => by have := ((unhide HOW).lt _ e.symm).1; omega))⟩
      have hko : KeepsOthers W w3 := ⟨h2.size, fun k o hk hc => (h2.block k (Array.getElem?_eq_some_iff.1 hk).1 (fun e => by
        obtain ⟨_, ⟨hv, _⟩ | ⟨g, cap, cur, hv, hb, hblk, _⟩⟩ := unhide HOW
        · rw [hv] at e; cases e
        · rw [hv] at e
          have e' : k = g := by simpa [Value.ownBlock] using e
          rw [e', hblk] at hk
          cases hk
          cases hc)).trans hk⟩
      refine ⟨⟨hp1.cell (i := 0) (by omega), hp1.frozen 0⟩, hko.trans (KeepsOthers.setCell _ _ _), hkp, .slice (some ⟨g3, 0, none⟩) (pre.length + 1) cp3, (hp1.set 0 _).congr (fun q hq => by simp [show q = 0 by omega]), ?_, (unhide HKP).trans hkp, ?_⟩
      · have hl : (pre ++ [⟨i, hi, ht⟩] : List (Liv d)).length = pre.length + 1 := by simp
        rw [hl]
        refine World.ownsRow.kept (w := w3) ?_ (grown_setCell w3 _ _) (.inr (by simp [Value.ownBlock]; omega))
        rw [unhide HSN] at h1
        exact h1
      · exact ((unhide HBW).grown h2 (unhide HBW).size (fun k e => by have := ((unhide HOW).lt _ e).1; omega)).setCell (by show w.heap.size ≤ w1.heap.size; omega) _)
    clear hblk hown hkp hbw hp mb0
    gi_wp2
    refine wpIn_region_any (by kernel_rfl) ?_
    change wpAnyIn _ _ _ _ _ _ _ _ _ (World.drew _)
    refine wpAnyIn_ready (rs := [0, 1]) (by kernel_rfl) (by simp) ?_
    refine AllReadyIn.cons rfl (fun K hK => ?_) (AllReadyIn.cons rfl (fun K hK => ?_) AllReadyIn.nil)
    · go_simp
      refine hK _ _ ?_
      clear hK K
      refine wpAnyIn_ready (rs := [1]) (by kernel_rfl) (by simp) ?_
      refine AllReadyIn.cons rfl (fun K hK => ?_) AllReadyIn.nil
      go_simp
      refine hK _ _ ?_
      clear hK K
      refine wpAnyIn_ready (rs := [2]) (by kernel_rfl) (by simp) ?_
      refine AllReadyIn.cons rfl (fun K hK => ?_) AllReadyIn.nil
      go_simp
      refine hK _ _ ?_
      clear hK K
      refine wpAnyIn_ready (rs := [3]) (by kernel_rfl) (by simp) ?_
      refine AllReadyIn.cons rfl (fun K hK => ?_) AllReadyIn.nil
      go_simp
      refine hK _ _ ?_
      clear hK K
      refine wpAnyIn_ready (rs := [4]) (by kernel_rfl) (by simp) ?_
      refine AllReadyIn.cons rfl (fun K hK => ?_) AllReadyIn.nil
      go_simp
      refine hK _ _ ?_
      clear hK K
      refine wpAnyIn_ready (rs := [5]) (by kernel_rfl) (by simp) ?_
      refine AllReadyIn.cons rfl (fun K hK => ?_) AllReadyIn.nil
      go_simp
      refine hK _ _ ?_
      clear hK K
      refine wpAnyIn_ready (rs := [6]) (by kernel_rfl) (by simp) ?_
      refine AllReadyIn.cons rfl (fun K hK => ?_) AllReadyIn.nil
      rw [if_pos (by rfl)]
      refine wpIn_append_lies _ (.tmp 12) (.tmp 17) 55 rfl u.heap.size 127 i0 PZ 11 104 Tryz.underlying55 hi0 hz0 hz1 hz2 rfl (by decide) v pre.length (pL (preF d pre) pre.length) (by simp [Act.eval]) ((unhide HOWd).alloc _) ⟨W.heap.size, 0, none⟩ 1 1 (prL (d.L i)) (by simp [Act.eval]) rfl (World.news_of_block (Deep.blk_alloc_new _ _)) (prL_one _) (by decide) (by unfold maxLen; omega) (by omega) (by simp; omega) _ rfl ?_
      intro g3 cp3 w3 hown3 hgr3 hloc3 hlt3
      obtain ⟨⟨x3, f3⟩, HN3⟩ := unhide HAPP g3 cp3 w3 hown3 (grown_fromP hgr3)
      clear hown3 hgr3 hloc3
      refine hK _ _ ?_
      clear hK K
      refine wpAnyIn_ready (rs := [7]) (by kernel_rfl) (by simp) ?_
      refine AllReadyIn.cons rfl (fun K hK => ?_) AllReadyIn.nil
      go_simp
      refine hK _ _ ?_
      clear hK K
      refine wpAnyIn_done (by kernel_rfl) ?_ _
      gi_wp2
      exact HN3
    · go_simp
      refine hK _ _ ?_
      clear hK K
      refine wpAnyIn_ready (rs := [0, 2]) (by kernel_rfl) (by simp) ?_
      refine AllReadyIn.cons rfl (fun K hK => ?_) (AllReadyIn.cons rfl (fun K hK => ?_) AllReadyIn.nil)
      · go_simp
        refine hK _ _ ?_
        clear hK K
        refine wpAnyIn_ready (rs := [2]) (by kernel_rfl) (by simp) ?_
        refine AllReadyIn.cons rfl (fun K hK => ?_) AllReadyIn.nil
        go_simp
        refine hK _ _ ?_
        clear hK K
        refine wpAnyIn_ready (rs := [3]) (by kernel_rfl) (by simp) ?_
        refine AllReadyIn.cons rfl (fun K hK => ?_) AllReadyIn.nil
        go_simp
        refine hK _ _ ?_
        clear hK K
        refine wpAnyIn_ready (rs := [4]) (by kernel_rfl) (by simp) ?_
        refine AllReadyIn.cons rfl (fun K hK => ?_) AllReadyIn.nil
        go_simp
        refine hK _ _ ?_
        clear hK K
        refine wpAnyIn_ready (rs := [5]) (by kernel_rfl) (by simp) ?_
        refine AllReadyIn.cons rfl (fun K hK => ?_) AllReadyIn.nil
        go_simp
        refine hK _ _ ?_
        clear hK K
        refine wpAnyIn_ready (rs := [6]) (by kernel_rfl) (by simp) ?_
        refine AllReadyIn.cons rfl (fun K hK => ?_) AllReadyIn.nil
        rw [if_pos (by rfl)]
        refine wpIn_append_lies _ (.tmp 12) (.tmp 17) 55 rfl u.heap.size 127 i0 PZ 11 104 Tryz.underlying55 hi0 hz0 hz1 hz2 rfl (by decide) v pre.length (pL (preF d pre) pre.length) (by simp [Act.eval]) ((unhide HOWd).alloc _) ⟨W.heap.size, 0, none⟩ 1 1 (prL (d.L i)) (by simp [Act.eval]) rfl (World.news_of_block (Deep.blk_alloc_new _ _)) (prL_one _) (by decide) (by unfold maxLen; omega) (by omega) (by simp; omega) _ rfl ?_
        intro g3 cp3 w3 hown3 hgr3 hloc3 hlt3
        obtain ⟨⟨x3, f3⟩, HN3⟩ := unhide HAPP g3 cp3 w3 hown3 (grown_fromP hgr3)
        clear hown3 hgr3 hloc3
        refine hK _ _ ?_
        clear hK K
        refine wpAnyIn_ready (rs := [7]) (by kernel_rfl) (by simp) ?_
        refine AllReadyIn.cons rfl (fun K hK => ?_) AllReadyIn.nil
        go_simp
        refine hK _ _ ?_
        clear hK K
        refine wpAnyIn_done (by kernel_rfl) ?_ _
        gi_wp2
        exact HN3
      · go_simp
        refine hK _ _ ?_
        clear hK K
        refine wpAnyIn_ready (rs := [0, 3]) (by kernel_rfl) (by simp) ?_
        refine AllReadyIn.cons rfl (fun K hK => ?_) (AllReadyIn.cons rfl (fun K hK => ?_) AllReadyIn.nil)
        · go_simp
          refine hK _ _ ?_
          clear hK K
          refine wpAnyIn_ready (rs := [3]) (by kernel_rfl) (by simp) ?_
          refine AllReadyIn.cons rfl (fun K hK => ?_) AllReadyIn.nil
          go_simp
          refine hK _ _ ?_
          clear hK K
          refine wpAnyIn_ready (rs := [4]) (by kernel_rfl) (by simp) ?_
          refine AllReadyIn.cons rfl (fun K hK => ?_) AllReadyIn.nil
          go_simp
          refine hK _ _ ?_
          clear hK K
          refine wpAnyIn_ready (rs := [5]) (by kernel_rfl) (by simp) ?_
          refine AllReadyIn.cons rfl (fun K hK => ?_) AllReadyIn.nil
          go_simp
          refine hK _ _ ?_
          clear hK K
          refine wpAnyIn_ready (rs := [6]) (by kernel_rfl) (by simp) ?_
          refine AllReadyIn.cons rfl (fun K hK => ?_) AllReadyIn.nil
          rw [if_pos (by rfl)]
          refine wpIn_append_lies _ (.tmp 12) (.tmp 17) 55 rfl u.heap.size 127 i0 PZ 11 104 Tryz.underlying55 hi0 hz0 hz1 hz2 rfl (by decide) v pre.length (pL (preF d pre) pre.length) (by simp [Act.eval]) ((unhide HOWd).alloc _) ⟨W.heap.size, 0, none⟩ 1 1 (prL (d.L i)) (by simp [Act.eval]) rfl (World.news_of_block (Deep.blk_alloc_new _ _)) (prL_one _) (by decide) (by unfold maxLen; omega) (by omega) (by simp; omega) _ rfl ?_
          intro g3 cp3 w3 hown3 hgr3 hloc3 hlt3
          obtain ⟨⟨x3, f3⟩, HN3⟩ := unhide HAPP g3 cp3 w3 hown3 (grown_fromP hgr3)
          clear hown3 hgr3 hloc3
          refine hK _ _ ?_
          clear hK K
          refine wpAnyIn_ready (rs := [7]) (by kernel_rfl) (by simp) ?_
          refine AllReadyIn.cons rfl (fun K hK => ?_) AllReadyIn.nil
          go_simp
          refine hK _ _ ?_
          clear hK K
          refine wpAnyIn_done (by kernel_rfl) ?_ _
          gi_wp2
          exact HN3
        · go_simp
          refine hK _ _ ?_
          clear hK K
          refine wpAnyIn_ready (rs := [0, 4]) (by kernel_rfl) (by simp) ?_
          refine AllReadyIn.cons rfl (fun K hK => ?_) (AllReadyIn.cons rfl (fun K hK => ?_) AllReadyIn.nil)
          · go_simp
            refine hK _ _ ?_
            clear hK K
            refine wpAnyIn_ready (rs := [4]) (by kernel_rfl) (by simp) ?_
            refine AllReadyIn.cons rfl (fun K hK => ?_) AllReadyIn.nil
            go_simp
            refine hK _ _ ?_
            clear hK K
            refine wpAnyIn_ready (rs := [5]) (by kernel_rfl) (by simp) ?_
            refine AllReadyIn.cons rfl (fun K hK => ?_) AllReadyIn.nil
            go_simp
            refine hK _ _ ?_
            clear hK K
            refine wpAnyIn_ready (rs := [6]) (by kernel_rfl) (by simp) ?_
            refine AllReadyIn.cons rfl (fun K hK => ?_) AllReadyIn.nil
            rw [if_pos (by rfl)]
            refine wpIn_append_lies _ (.tmp 12) (.tmp 17) 55 rfl u.heap.size 127 i0 PZ 11 104 Tryz.underlying55 hi0 hz0 hz1 hz2 rfl (by decide) v pre.length (pL (preF d pre) pre.length) (by simp [Act.eval]) ((unhide HOWd).alloc _) ⟨W.heap.size, 0, none⟩ 1 1 (prL (d.L i)) (by simp [Act.eval]) rfl (World.news_of_block (Deep.blk_alloc_new _ _)) (prL_one _) (by decide) (by unfold maxLen; omega) (by omega) (by simp; omega) _ rfl ?_
            intro g3 cp3 w3 hown3 hgr3 hloc3 hlt3
            obtain ⟨⟨x3, f3⟩, HN3⟩ := unhide HAPP g3 cp3 w3 hown3 (grown_fromP hgr3)
            clear hown3 hgr3 hloc3
            refine hK _ _ ?_
            clear hK K
            refine wpAnyIn_ready (rs := [7]) (by kernel_rfl) (by simp) ?_
            refine AllReadyIn.cons rfl (fun K hK => ?_) AllReadyIn.nil
            go_simp
            refine hK _ _ ?_
            clear hK K
            refine wpAnyIn_done (by kernel_rfl) ?_ _
            gi_wp2
            exact HN3
          · go_simp
            refine hK _ _ ?_
            clear hK K
            refine wpAnyIn_ready (rs := [0, 5]) (by kernel_rfl) (by simp) ?_
            refine AllReadyIn.cons rfl (fun K hK => ?_) (AllReadyIn.cons rfl (fun K hK => ?_) AllReadyIn.nil)
            · go_simp
              refine hK _ _ ?_
              clear hK K
              refine wpAnyIn_ready (rs := [5]) (by kernel_rfl) (by simp) ?_
              refine AllReadyIn.cons rfl (fun K hK => ?_) AllReadyIn.nil
              go_simp
              refine hK _ _ ?_
              clear hK K
              refine wpAnyIn_ready (rs := [6]) (by kernel_rfl) (by simp) ?_
              refine AllReadyIn.cons rfl (fun K hK => ?_) AllReadyIn.nil
              rw [if_pos (by rfl)]
              refine wpIn_append_lies _ (.tmp 12) (.tmp 17) 55 rfl u.heap.size 127 i0 PZ 11 104 Tryz.underlying55 hi0 hz0 hz1 hz2 rfl (by decide) v pre.length (pL (preF d pre) pre.length) (by simp [Act.eval]) ((unhide HOWd).alloc _) ⟨W.heap.size, 0, none⟩ 1 1 (prL (d.L i)) (by simp [Act.eval]) rfl (World.news_of_block (Deep.blk_alloc_new _ _)) (prL_one _) (by decide) (by unfold maxLen; omega) (by omega) (by simp; omega) _ rfl ?_
              intro g3 cp3 w3 hown3 hgr3 hloc3 hlt3
              obtain ⟨⟨x3, f3⟩, HN3⟩ := unhide HAPP g3 cp3 w3 hown3 (grown_fromP hgr3)
              clear hown3 hgr3 hloc3
              refine hK _ _ ?_
              clear hK K
              refine wpAnyIn_ready (rs := [7]) (by kernel_rfl) (by simp) ?_
              refine AllReadyIn.cons rfl (fun K hK => ?_) AllReadyIn.nil
              go_simp
              refine hK _ _ ?_
              clear hK K
              refine wpAnyIn_done (by kernel_rfl) ?_ _
              gi_wp2
              exact HN3
            · go_simp
              refine hK _ _ ?_
              clear hK K
              refine wpAnyIn_ready (rs := [0]) (by kernel_rfl) (by simp) ?_
              refine AllReadyIn.cons rfl (fun K hK => ?_) AllReadyIn.nil
              go_simp
              refine hK _ _ ?_
              clear hK K
              refine wpAnyIn_ready (rs := [6]) (by kernel_rfl) (by simp) ?_
              refine AllReadyIn.cons rfl (fun K hK => ?_) AllReadyIn.nil
              rw [if_pos (by rfl)]
              refine wpIn_append_lies _ (.tmp 12) (.tmp 17) 55 rfl u.heap.size 127 i0 PZ 11 104 Tryz.underlying55 hi0 hz0 hz1 hz2 rfl (by decide) v pre.length (pL (preF d pre) pre.length) (by simp [Act.eval]) ((unhide HOWd).alloc _) ⟨W.heap.size, 0, none⟩ 1 1 (prL (d.L i)) (by simp [Act.eval]) rfl (World.news_of_block (Deep.blk_alloc_new _ _)) (prL_one _) (by decide) (by unfold maxLen; omega) (by omega) (by simp; omega) _ rfl ?_
              intro g3 cp3 w3 hown3 hgr3 hloc3 hlt3
              obtain ⟨⟨x3, f3⟩, HN3⟩ := unhide HAPP g3 cp3 w3 hown3 (grown_fromP hgr3)
              clear hown3 hgr3 hloc3
              refine hK _ _ ?_
              clear hK K
              refine wpAnyIn_ready (rs := [7]) (by kernel_rfl) (by simp) ?_
              refine AllReadyIn.cons rfl (fun K hK => ?_) AllReadyIn.nil
              go_simp
              refine hK _ _ ?_
              clear hK K
              refine wpAnyIn_done (by kernel_rfl) ?_ _
              gi_wp2
              exact HN3
  case done =>
    rintro D ys W hD hlv ⟨v, hp, hown, hkp, hbw⟩ hK
    have hlv' : ys.map (·.1) = livL d d.n := hlv
    have hlen : ys.length = lvN d := by have := congrArg List.length hlv'; rwa [List.length_map] at this
    have hpre := preF_all hlv'
    rw [hlen, hpre] at hown
    have x0 := hp.cell (i := 0) (by omega)
    have HOW := hide hown
    have HBW := hide hbw
    have hpl := hp.lt
    clear hlv hlv' hlen hpre hp hown hkp hbw
    gi_wp2
    refine ⟨by simp, .inl ⟨_, _, rfl, run_takeDeferred hK, ?_⟩⟩
    refine ⟨v, ?_, ⟨v, rfl, ?_⟩, (unhide HBW).trans (belowK_b (w := w) (Nat.le_refl _) W D _ _ (by omega) hK rfl rfl)⟩
    · simp [results, Tryz.f120]
    · rw [unhide HR]
      exact own_mono (own_keptO (D := D) (unhide HOW) (grownBy_putObj' W D (.deferred none)) (fun r e => by cases e; exact ⟨Nat.le_refl _, _, hK, rfl⟩)) hwu
  case stop =>
    rintro D c pre W hD hpre h hK
    exact h.elim
end Go.Proofs.YtfceeijdmilieaaGreatDoor
