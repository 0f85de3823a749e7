import Derived.Test.YtglcaejddckleaaGreatDoorFA
import Derived.Stop.RegionWithIn
import Derived.Laws.OwnMore
import Derived.Test.YtglcaejddckleaaGreatDoorQB
set_option linter.unusedVariables false
namespace Go.Proofs.YtglcaejddckleaaGreatDoor
section
open Go.RowKit Go.Shelf
attribute [local go_sem] run_store_float run_equalIn_float Oper.semAt_some
structure KpB (p n0 : Nat) (A B : World) : Prop where
 size : A.heap.size ≤ B.heap.size
 block : ∀ b, b < n0 → b ≠ p → B.heap[b]? = A.heap[b]?
theorem KpB.refl (p n0 : Nat) (A : World) : KpB p n0 A A := ⟨Nat.le_refl _, fun _ _ _ => rfl⟩
theorem KpB.trans {p n0 : Nat} {A B C : World} (h : KpB p n0 A B) (k : KpB p n0 B C) : KpB p n0 A C := ⟨Nat.le_trans h.size k.size, fun b h1 h2 => (k.block b h1 h2).trans (h.block b h1 h2)⟩
theorem KpB.put {p n0 : Nat} {w : World} (hn : n0 ≤ w.heap.size) (W : World) (l : Nat) (o o' : Obj) (hl : w.heap.size ≤ l) (h : W.heap[l]? = some o) (_ : o.isCells = false) (_ : o.isWalk = false) : KpB p n0 W (W.putObj l o') := by
 have hb := (Below.refl n0 W).grown (grownBy_putObj' W l o') (by have := (Array.getElem?_eq_some_iff.1 h).1; omega) (fun k e => by cases e; omega)
 exact ⟨hb.size, fun b h1 _ => hb.block b h1⟩
theorem kept_cells {A B : World} {row : Option Nat} {b : Nat} {c : Array Value} {t : TypeId} {fz : Nat × Nat} {D : Nat} (h : A.heap[b]? = some (.cells c t fz)) (hg : A.grownBy B row) (hr : ∀ r, row = some r → D ≤ r ∧ ∃ o : Obj, A.heap[r]? = some o ∧ o.isCells = false) : B.heap[b]? = A.heap[b]? :=
 hg.block b (Array.getElem?_eq_some_iff.1 h).1 (fun e => by
  obtain ⟨_, o, ho, hc⟩ := hr b e.symm
  rw [h] at ho
  cases ho
  cases hc)
theorem own_keptO {A B : World} {row : Option Nat} {D base e size : Nat} {v : Value} {n : Nat} {xs : List Value} (h : A.ownsRow base e size v n xs) (hg : A.grownBy B row) (hr : ∀ r, row = some r → D ≤ r ∧ ∃ o : Obj, A.heap[r]? = some o ∧ o.isCells = false) : B.ownsRow base e size v n xs := by
 obtain ⟨hl, h | ⟨g, cap, cur, h1, h2, h3, h4⟩⟩ := h
 ·exact ⟨hl, .inl h⟩
 ·exact ⟨hl, .inr ⟨g, cap, cur, h1, h2, (kept_cells h3 hg hr).trans h3, h4⟩⟩
section
variable {P : Program}
theorem wpIn_append_lies (w : World) {l n' : Nat} {o : Oper} {a : Act} {K : Act → World → Prop} {Q : Exit → Act → World → Prop} (s x : Operand) (t : TypeId)
  (ho : o.op = .call { callee := .builtin .append, args := #[s, x], argTypes := #[t, t] })
  (base : Nat) (e : TypeId) (i : TypeInfo) (z : Value) (size bytes : Nat) (ht : P.underlying t = some (.slice e)) (hi : P.info? e = some i) (hz : i.zero = some z)
  (hsize : i.size = size) (hby : i.bytes = bytes) (hzs : z.cells.size = size) (hsz : 0 < size)
  (v : Value) (n : Nat) (xs : List Value) (hs : a.eval s = v) (hown : w.ownsRow base e size v n xs)
  (ad : Addr) (m c : Nat) (news : List Value) (hx : a.eval x = .slice (some ad) m c) (hl : news.length = m * size) (hnews : ∀ j u, news[j]? = some u → w.cell? (ad.add j) = some u) (h1 : ∀ u ∈ news, u.oneCell' = true)
  (hm : 0 < m) (h63 : n + m ≤ maxLen) (hbytes : (n + m) * bytes ≤ 140737488355328) (hbase : base ≤ w.heap.size) (H : Nat) (hH : w.heap.size = H)
  (h : ∀ g cap w', w'.ownsRow base e size (.slice (some ⟨g, 0, none⟩) (n + m) cap) (n + m) (xs ++ news) → w.grownBy w' v.ownBlock → (v.ownBlock = some g ∨ g = H) → g < w'.heap.size → K (a.put o.dst (.slice (some ⟨g, 0, none⟩) (n + m) cap)) w') : o.wpIn (Fence.wide.inRound l) n' P a w K Q := by
 obtain ⟨g, cap, w', hr, h2, h3, h4, h5⟩ := run_append_lies (P := P) w t o.type base e i z size bytes ht hi hz hsize hby hzs hsz v n xs hown ad m c news hl hnews h1 hm h63 hbytes hbase H hH
 refine ⟨fun _ _ => trivial, ?_⟩
 show o.uponIn (Fence.wide.inRound l) n' P a K Q ((o.semAt (some l) a.eval).run P w)
 rw [Oper.semAt_some l _ _ (fun c e => by rw [ho] at e; cases e)]
 unfold execOp
 simp only [ho, resolve, invoke, builtin, Sem.run_bind, Sem.run_pure, Result.andThen_ok, List.map_toArray, List.map_cons, List.map_nil, hs, hx, hr]
 exact h g cap w' h2 h3 h4 h5
end
set_option maxRecDepth 100000 in
set_option maxHeartbeats 2000000 in
theorem living_stopsP (n : Nat) (hn : 1 ≤ n) (bk R0 R1 R2 mb p n0 : Nat) (E S : Nat → Nat) (d : Dc) (w : World) (hB : Book w bk R0 R1 R2 E S d) (hS : Small d) (hR : 0 < d.n → R0 < n0 ∧ R0 ≠ p) (hE : ∀ i, i < d.n → E i < n0 ∧ E i ≠ p)
  (m0 : w.cell? ⟨mb, 0, none⟩ = some (.pointer (some ⟨bk, 0, none⟩))) :
  SeqStopsK Fence.wide n Tryz.prog 107 #[.pointer (some ⟨mb, 0, none⟩)] (fun a : Liv d => #[.pointer (some ⟨E a.1, 0, none⟩)]) (KpB p n0)
   (LvAll d) (LvPre d) d.n w := fun l J Jx W hW hJ hJx hY h0 => by
 have lm := World.block_lt_of_cell? _ _ m0
 have m0 := (hW.cell (p := ⟨mb, 0, none⟩) lm).trans m0
 have hBk := hB.below hW
 obtain ⟨a0, k0, c0, ha0⟩ := hBk.c0
 have HA0 := uy ha0
 clear ha0
 have lb := hBk.lt
 have hnn := hS.n
 have HY := uy hY
 have H0 := uy h0
 have HBk := uy hBk
 have HE := uy hE
 clear hJx hJ hY hW h0 hBk hB hS hE
 refine callsIn_of_wp Tryz.func107 rfl trivial ?_ rfl
 simp only [Tryz.ntmps107, List.size_toArray, List.length_cons, List.length_nil, Nat.reduceAdd, Nat.reduceSub, Array.replicate_succ, Array.replicate_zero, List.push_toArray, List.append_toArray, List.nil_append, List.cons_append]
 gi_wp2
 gi_loopw [10] (fun i wr => ∃ (k : Nat) (pre : List (Liv d)), k ≤ d.n ∧ i = .int .i64 (k : Int) ∧ LvTo d k pre ∧ J pre wr ∧ KpB p n0 W wr) (fun i _ => d.n - (intOf i).toNat)
 case atStart => exact ⟨0, [], by omega, rfl, rfl, uh H0, KpB.refl _ _ _⟩
 case round =>
  obtain ⟨k, pre, hk, rfl, hlv, hJp, hbw⟩ := hrel
  by_cases hkn : k < d.n
  ·obtain rfl := uh HA0 (by omega)
   have p0 := (World.cell?_of_block (a := ⟨R0, k, none⟩) (hbw.block _ (hR (by omega)).1 (hR (by omega)).2)).trans ((uh HBk).r0 k hkn)
   have t0 := (World.cell?_of_block (a := ⟨E k, 10, none⟩) (hbw.block _ (uh HE k hkn).1 (uh HE k hkn).2)).trans ((uh HBk).ent k hkn).tn
   have HLV := uy hlv
   have HBW := uy hbw
   clear hlv hbw
   by_cases ht : (d.L k).turn = 0
   ·have HN : Hid (LvTo d (k + 1) pre) := uy (by unfold LvTo; rw [livL_dead ht]; exact uh HLV)
    rw [ht] at t0
    clear ht
    gi_wp2
    refine ⟨fun _ h => (by cases h), ?_⟩
    gi_wp2
    go_roundw
    case rel => exact ⟨k + 1, pre, by omega, by go_num, uh HN, hJp, uh HBW⟩
    case measure => simp [intOf]; omega
   ·have ht' : ((d.L k).turn != 0) = true := by simp [ht]
    obtain ⟨fn, tmps, assign, body, hy, hRR⟩ := uh HY pre ⟨k, hkn, ht⟩ wr hJp (by
     have h1 : (pre.map (·.1)).length = (livL d k).length := congrArg List.length (uh HLV)
     rw [List.length_map] at h1
     have := livL_le d k
     omega)
    have HN : Hid (LvTo d (k + 1) (pre ++ [⟨k, hkn, ht⟩])) := uy (by
     unfold LvTo
     rw [livL_live ht, List.map_append, show pre.map (·.1) = livL d k from uh HLV]
     rfl)
    have HR := uy hRR
    clear hRR hJp
    dsimp only at hy
    gi_wp2
    refine (uh HR).mono ?_
    rintro e W3 (⟨rfl, hJ3, hk3⟩ | ⟨rfl, hJx3⟩)
    ·clear HR hy
     gi_wp2
     go_roundw
     case rel => exact ⟨k + 1, _, by omega, by go_num, uh HN, hJ3, (uh HBW).trans hk3⟩
     case measure => simp [intOf]; omega
    ·clear HR hy
     gi_wp2
     refine bodyPost_ret (results_none rfl _ _ _) rfl ?_
     exact ⟨⟨_, rfl⟩, .inr ⟨_, (uh HN).pre (by omega), hJx3⟩⟩
  ·have hkn' : k = d.n := by omega
   subst hkn'
   have HS := uy hlv
   clear hlv
   gi_wp2
   go_end0
   exact ⟨⟨_, rfl⟩, .inl ⟨pre, uh HS, hJp⟩⟩
end
section
open Go.RowKit Go.Shelf
attribute [local go_sem] run_store_float run_equalIn_float Oper.semAt_some
def preF (d : Dc) (pre : List (Liv d)) (j : Nat) : Pr := d.L ((pre.map (·.1)).getD j 0)
theorem pL_congr {f g : Nat → Pr} {n : Nat} (h : ∀ j, j < n → f j = g j) : pL f n = pL g n := by
 induction n with
 | zero => rfl
 | succ n ih => show pL f n ++ prL (f n) = pL g n ++ prL (g n); rw [ih (fun j hj => h j (by omega)), h n (by omega)]
theorem preF_snoc (d : Dc) (pre : List (Liv d)) (x : Liv d) : pL (preF d pre) pre.length ++ prL (d.L x.1) = pL (preF d (pre ++ [x])) (pre.length + 1) := by
 show _ = pL (preF d (pre ++ [x])) pre.length ++ prL (preF d (pre ++ [x]) pre.length)
 rw [pL_congr (f := preF d (pre ++ [x])) (g := preF d pre) (fun j hj => by
  unfold preF
  rw [List.map_append, List.getD_eq_getElem?_getD, List.getD_eq_getElem?_getD, List.getElem?_append_left (by simpa using hj)])]
 congr 2
 unfold preF
 rw [List.map_append]
 simp [List.getD]
theorem preF_all {d : Dc} {pre : List (Liv d)} (h : pre.map (·.1) = livL d d.n) : preF d pre = lvF d := by
 funext j
 unfold preF lvF
 rw [h]
def PrI (w u : World) (p n0 : Nat) (d : Dc) (pre : List (Liv d)) (W : World) : Prop :=
 ∃ v, W.rowIs p 23 1 (fun _ => v) ∧ POwn W n0 v pre.length (preF d pre) ∧ KpB p n0 u W ∧ Below w.heap.size w W
theorem PrI.own (w u : World) (p n0 D : Nat) (d : Dc) (hn : n0 ≤ D) (hu : n0 ≤ u.heap.size) (hw : w.heap.size ≤ D) : OwnFrom D (PrI w u p n0 d) := by
 rintro pre A B row ⟨v, h1, h2, h3, h4⟩ hg hr
 refine ⟨v, ?_, own_keptO h2 hg hr, ⟨Nat.le_trans h3.size hg.size, fun b hb hp => ?_⟩, h4.grown hg h4.size (fun k e => Nat.le_trans hw (hr k e).1)⟩
 ·obtain ⟨c, hb, hc⟩ := h1
  exact World.rowIs.of_block ⟨c, hb, hc⟩ (kept_cells hb hg hr)
 ·have hl : b < A.heap.size := Nat.lt_of_lt_of_le hb (Nat.le_trans hu h3.size)
  exact (hg.block b hl (fun e => by have := (hr b e.symm).1; omega)).trans (h3.block b hb hp)
theorem grown_fromP {W w3 : World} {o : Obj} {row : Option Nat} (h : (W.drew.alloc o).grownBy w3 row) : W.grownBy w3 row :=
 ⟨h.os, h.tape, h.output, by have := h.size; simp at this; omega, fun b hb hr => (h.block b (by simp; omega) hr).trans (Deep.blk_alloc_lt _ _ _ hb)⟩
set_option maxRecDepth 100000 in
set_option maxHeartbeats 4000000 in
theorem implPairs (la : Option Addr) (lc : Nat) (ia : Option Addr) (ic : Nat) (xa : Option Addr) (xc : Nat) (d : Dc) (w : World) (hT : Tabs w) (hA : DAt w la ia xa d) (hS : Small d) (hW : WfD d) :
  Calls Tryz.prog 21 #[Dv la lc ia ic xa xc d] w fun e w' => (∃ v, e = .returned v ∧ POwn w' w.heap.size v (prsN d) (lvF d)) ∧ Below w.heap.size w w' := by
 obtain ⟨i0, hi0, hz0, hz1, hz2⟩ := info_parts infoPair
 have hdn := hS.n
 have HA := uy hA
 have HS := uy hS
 have HW := uy hW
 have HT := uy hT
 clear hA hS hW hT
 have hb0 : Below w.heap.size w (w.alloc (.cells #[.slice la d.n lc, .slice ia d.m ic, .slice xa d.x xc, .int .i64 d.used, .int .i64 d.live, .int .i64 d.turns] 26)) := (Below.refl _ _).alloc (Nat.le_refl _) _
 have HB0 := uy hb0
 clear hb0
 refine (callsIn_wide (n := 20)).1 ?_
 refine callsIn_of_wp_marks Tryz.func21 rfl trivial ?_ rfl
 simp only [Tryz.ntmps21, List.size_toArray, List.length_cons, List.length_nil, Nat.reduceAdd, Nat.reduceSub, Array.replicate_succ, Array.replicate_zero, List.push_toArray, List.append_toArray, List.nil_append, List.cons_append]
 gi_wp2_with fail
 refine ⟨trivial, ?_⟩
 refine (callsIn_wide.2 (implOk la lc ia ic xa xc d _ (lastsT _ _ (uh HT) (uh HB0)) ((uh HA).below (uh HB0)) (uh HS) (uh HW))).mono ?_
 rintro e w1 ⟨rfl, hb1⟩
 obtain ⟨hc1, hf1⟩ := bcell hb1
 have hz1' := hb1.size
 simp at hz1'
 have y0 : w.heap.size < w1.heap.size := by omega
 have q0 : w1.cell? ⟨w.heap.size, 0, none⟩ = some (.slice la d.n lc) := by rw [hc1 _ _ (by simp)]; simp [go_sem]
 have q1 : w1.cell? ⟨w.heap.size, 1, none⟩ = some (.slice ia d.m ic) := by rw [hc1 _ _ (by simp)]; simp [go_sem]
 have q2 : w1.cell? ⟨w.heap.size, 2, none⟩ = some (.slice xa d.x xc) := by rw [hc1 _ _ (by simp)]; simp [go_sem]
 have q3 : w1.cell? ⟨w.heap.size, 3, none⟩ = some (.int .i64 d.used) := by rw [hc1 _ _ (by simp)]; simp [go_sem]
 have q4 : w1.cell? ⟨w.heap.size, 4, none⟩ = some (.int .i64 d.live) := by rw [hc1 _ _ (by simp)]; simp [go_sem]
 have q5 : w1.cell? ⟨w.heap.size, 5, none⟩ = some (.int .i64 d.turns) := by rw [hc1 _ _ (by simp)]; simp [go_sem]
 have HB1 := uy ((uh HB0).trans (hb1.mono (uh HB0).size))
 clear hb1 hc1 hf1 hz1'
 by_cases hk : dictOk d (hD d) = 0
 case neg =>
  have HR : Hid (prsN d = 0) := uy (if_neg hk)
  have hk' : (dictOk d (hD d) != 0) = true := by simp [hk]
  clear hk
  generalize dictOk d (hD d) = ok at hk'
  gi_wp2
  refine ⟨.slice none 0 0, ?_, ⟨_, rfl, by rw [uh HR]; exact World.ownsRow_nil _ _ _ _⟩, uh HB1⟩
  simp [results, Tryz.f21]
 have HR : Hid (prsN d = lvN d) := uy (if_pos hk)
 have HSd := uy (sound_of hk)
 rw [hk]
 clear hk
 have HBs : Hid (∀ o, Below w.heap.size w (w1.alloc o)) := uy (fun o => (uh HB1).alloc (by omega) _)
 gi_wp2_with fail
 refine ⟨trivial, ?_⟩
 refine (callsIn_wide.2 (openBook_any la lc ia ic xa xc d _ ((uh HA).below (uh HBs _)) (uh HS) (uh HSd).d3 (uh HSd).d4)).mono ?_
 rintro e w2 ⟨⟨bk, R0, R1, R2, E, S, rfl, hBk⟩, hb2⟩
 have hz2' := hb2.size
 simp at hz2'
 have yp : w1.heap.size < w2.heap.size := by omega
 have hp2 : w2.rowIs w1.heap.size 23 1 (fun _ => .slice none 0 0) := World.rowIs.of_block (World.rowIs_alloc w1 #[.slice none 0 0] 23 (fun _ => .slice none 0 0) (fun i hi => by
   have : i = 0 := by simpa using hi
   subst this
   rfl)) (hb2.block _ (by simp))
 have HB2 := uy ((uh HBs _).trans (hb2.mono (uh HBs _).size))
 have HBk := uy hBk
 have HP2 := uy hp2
 clear hb2 hBk hp2
 gi_wp2_with fail
 refine ⟨trivial, ?_⟩
 refine (callsIn_wide.2 (living_any bk _)).mono ?_
 rintro e w4 ⟨rfl, rfl⟩
 gi_wp2_with fail
 obtain ⟨u, hu⟩ : ∃ u, u = w2.alloc (.cells #[.pointer (some ⟨bk, 0, none⟩)] 77) := ⟨_, rfl⟩
 rw [← hu]
 have zu : u.heap.size = w2.heap.size + 1 := by rw [hu]; simp
 have b2u : Below w2.heap.size w2 u := by rw [hu]; exact (Below.refl _ _).alloc (Nat.le_refl _) _
 have mb0 : u.cell? ⟨w2.heap.size, 0, none⟩ = some (.pointer (some ⟨bk, 0, none⟩)) := by rw [hu]; simp [go_sem]
 clear hu
 have hBu := (uh HBk).below b2u
 have hpu : u.rowIs w1.heap.size 23 1 (fun _ => .slice none 0 0) := (uh HP2).of_block (b2u.block _ yp)
 have bwu : Below w.heap.size w u := (uh HB2).trans (b2u.mono (uh HB2).size)
 have ypu : w1.heap.size < u.heap.size := by omega
 have c0u : u.cell? ⟨w1.heap.size, 0, none⟩ = some (.slice none 0 0) := hpu.cell (i := 0) (by omega)
 have hRp : 0 < d.n → R0 < u.heap.size ∧ R0 ≠ w1.heap.size := fun h0 => ⟨hBu.l0, fun e => by
  have := hBu.r0 0 h0
  rw [e, c0u] at this
  cases this⟩
 have hEp : ∀ i, i < d.n → E i < u.heap.size ∧ E i ≠ w1.heap.size := fun i hi => ⟨(hBu.ent i hi).lt, fun e => by
  have := (hBu.ent i hi).k0
  rw [e, c0u] at this
  cases this⟩
 have hwu : w.heap.size ≤ u.heap.size := bwu.size
 clear zu HBk b2u q0 q1 q2 q3 q4 q5 c0u
 refine wpIn_rangeFunc_ownF rfl (by decide) (gf := 107) (lb := #[.pointer (some ⟨w2.heap.size, 0, none⟩)]) rfl trivial (enters_of Tryz.func107 (by kernel_rfl) rfl)
  (living_stopsP 19 (by decide) bk R0 R1 R2 w2.heap.size w1.heap.size u.heap.size E S d u hBu (uh HS) hRp hEp mb0) KpB.trans (KpB.put (Nat.le_refl _)) (Below.refl _ _) (fun _ => rfl)
  (PrI w u w1.heap.size u.heap.size d)
  (fun c pre W => False)
  (PrI.own w u w1.heap.size u.heap.size u.heap.size d (Nat.le_refl _) (Nat.le_refl _) hwu)
  (fun c _ _ _ _ h => h.elim)
  ⟨.slice none 0 0, hpu, World.ownsRow_nil _ _ _ _, KpB.refl _ _ _, bwu⟩
  ?a1 ?assign ?body ?done ?stop
 case assign =>
  intro l x W K hK
  gi_wp2
  exact hK
 case body =>
  rintro l pre ⟨i, hi, ht⟩ W ⟨v, hp, hown, hkp, hbw⟩ hlen
  have hblk := hkp.block (E i) (hEp i hi).1 (hEp i hi).2
  obtain ⟨hel, k0, k1, k2, k3, k4, v0, v1, v2, v3, v4, tn, _, _⟩ := (hBu.ent i hi).keep hkp.size hblk
  have x0 := hp.cell (i := 0) (by omega)
  have fx := hp.frozen 0
  have hpl := hp.lt
  have hln := hown.lt
  have HOW := uy hown
  have HKP := uy hkp
  have HBW := uy hbw
  have HP := uy hp
  have hpre : pre.length ≤ d.n := by omega
  have hWs : u.heap.size ≤ W.heap.size := (uh HKP).size
  have HOWd : Hid (POwn W.drew u.heap.size v pre.length (preF d pre)) := uy (uh HOW).drew
  have HSN := uy (preF_snoc d pre ⟨i, hi, ht⟩)
  have HAPP : Hid (∀ (g3 cp3 : Nat) (w3 : World), w3.ownsRow u.heap.size 43 11 (.slice (some ⟨g3, 0, none⟩) (pre.length + 1) cp3) (pre.length + 1) (pL (preF d pre) pre.length ++ prL (d.L i)) → W.grownBy w3 v.ownBlock → (w3.cell? ⟨w1.heap.size, 0, none⟩ = some v ∧ w3.frozen? ⟨w1.heap.size, 0, none⟩ = false) ∧ KeepsOthers W (w3.setCell ⟨w1.heap.size, 0, none⟩ (.slice (some ⟨g3, 0, none⟩) (pre.length + 1) cp3)) ∧ KpB w1.heap.size u.heap.size W (w3.setCell ⟨w1.heap.size, 0, none⟩ (.slice (some ⟨g3, 0, none⟩) (pre.length + 1) cp3)) ∧
    PrI w u w1.heap.size u.heap.size d (pre ++ [⟨i, hi, ht⟩]) (w3.setCell ⟨w1.heap.size, 0, none⟩ (.slice (some ⟨g3, 0, none⟩) (pre.length + 1) cp3))) := uy (fun g3 cp3 w3 h1 h2 => by
   have hp1 : w3.rowIs w1.heap.size 23 1 (fun _ => v) := (uh HP).of_block (h2.block _ hpl (fun e => by have := ((uh HOW).lt _ e.symm).1; omega))
   have hg3 := (World.ownsRow.lt h1 g3 rfl).1
   have hkp : KpB w1.heap.size u.heap.size W (w3.setCell ⟨w1.heap.size, 0, none⟩ (.slice (some ⟨g3, 0, none⟩) (pre.length + 1) cp3)) := ⟨by simpa using h2.size, fun b h1 h2' => (Deep.blk_setCell_other _ _ _ _ (by exact h2')).trans (h2.block b (by omega) (fun e => by have := ((uh HOW).lt _ e.symm).1; omega))⟩
   have hko : KeepsOthers W w3 := ⟨h2.size, fun k o hk hc => (h2.block k (Array.getElem?_eq_some_iff.1 hk).1 (fun e => by
    obtain ⟨_, ⟨hv, _⟩ | ⟨g, cap, cur, hv, hb, hblk, _⟩⟩ := uh HOW
    ·rw [hv] at e; cases e
    ·rw [hv] at e
     have e' : k = g := by simpa [Value.ownBlock] using e
     rw [e', hblk] at hk
     cases hk
     cases hc)).trans hk⟩
   refine ⟨⟨hp1.cell (i := 0) (by omega), hp1.frozen 0⟩, hko.trans (KeepsOthers.setCell _ _ _), hkp, .slice (some ⟨g3, 0, none⟩) (pre.length + 1) cp3, (hp1.set 0 _).congr (fun q hq => by simp [show q = 0 by omega]), ?_, (uh HKP).trans hkp, ?_⟩
   ·have hl : (pre ++ [⟨i, hi, ht⟩] : List (Liv d)).length = pre.length + 1 := by simp
    rw [hl]
    refine World.ownsRow.kept (w := w3) ?_ (grown_setCell w3 _ _) (.inr (by simp [Value.ownBlock]; omega))
    rw [uh HSN] at h1
    exact h1
   ·exact ((uh HBW).grown h2 (uh HBW).size (fun k e => by have := ((uh HOW).lt _ e).1; omega)).setCell (by show w.heap.size ≤ w1.heap.size; omega) _)
  clear hblk hown hkp hbw hp mb0
  gi_wp2
  refine wpIn_region_any (by kernel_rfl) ?_
  change wpAnyIn _ _ _ _ _ _ _ _ _ (World.drew _)
  refine wpAnyIn_ready (rs := [0, 1]) (by kernel_rfl) (by simp) ?_
  refine AllReadyIn.cons rfl (fun K hK => ?_) (AllReadyIn.cons rfl (fun K hK => ?_) AllReadyIn.nil)
  ·go_simp
   refine hK _ _ ?_
   clear hK K
   refine wpAnyIn_ready (rs := [1]) (by kernel_rfl) (by simp) ?_
   refine AllReadyIn.cons rfl (fun K hK => ?_) AllReadyIn.nil
   go_simp
   refine hK _ _ ?_
   clear hK K
   refine wpAnyIn_ready (rs := [2]) (by kernel_rfl) (by simp) ?_
   refine AllReadyIn.cons rfl (fun K hK => ?_) AllReadyIn.nil
   go_simp
   refine hK _ _ ?_
   clear hK K
   refine wpAnyIn_ready (rs := [3]) (by kernel_rfl) (by simp) ?_
   refine AllReadyIn.cons rfl (fun K hK => ?_) AllReadyIn.nil
   go_simp
   refine hK _ _ ?_
   clear hK K
   refine wpAnyIn_ready (rs := [4]) (by kernel_rfl) (by simp) ?_
   refine AllReadyIn.cons rfl (fun K hK => ?_) AllReadyIn.nil
   go_simp
   refine hK _ _ ?_
   clear hK K
   refine wpAnyIn_ready (rs := [5]) (by kernel_rfl) (by simp) ?_
   refine AllReadyIn.cons rfl (fun K hK => ?_) AllReadyIn.nil
   go_simp
   refine hK _ _ ?_
   clear hK K
   refine wpAnyIn_ready (rs := [6]) (by kernel_rfl) (by simp) ?_
   refine AllReadyIn.cons rfl (fun K hK => ?_) AllReadyIn.nil
   rw [if_pos (by rfl)]
   refine wpIn_append_lies _ (.tmp 12) (.tmp 17) 23 rfl u.heap.size 43 i0 PZ 11 104 Tryz.underlying23 hi0 hz0 hz1 hz2 rfl (by decide) v pre.length (pL (preF d pre) pre.length) (by simp [Act.eval]) ((uh HOWd).alloc _) ⟨W.heap.size, 0, none⟩ 1 1 (prL (d.L i)) (by simp [Act.eval]) rfl (World.news_of_block (Deep.blk_alloc_new _ _)) (prL_one _) (by decide) (by unfold maxLen; omega) (by omega) (by simp; omega) _ rfl ?_
   intro g3 cp3 w3 hown3 hgr3 hloc3 hlt3
   obtain ⟨⟨x3, f3⟩, HN3⟩ := uh HAPP g3 cp3 w3 hown3 (grown_fromP hgr3)
   clear hown3 hgr3 hloc3
   refine hK _ _ ?_
   clear hK K
   refine wpAnyIn_ready (rs := [7]) (by kernel_rfl) (by simp) ?_
   refine AllReadyIn.cons rfl (fun K hK => ?_) AllReadyIn.nil
   go_simp
   refine hK _ _ ?_
   clear hK K
   refine wpAnyIn_done (by kernel_rfl) ?_ _
   gi_wp2
   exact HN3
  ·go_simp
   refine hK _ _ ?_
   clear hK K
   refine wpAnyIn_ready (rs := [0, 2]) (by kernel_rfl) (by simp) ?_
   refine AllReadyIn.cons rfl (fun K hK => ?_) (AllReadyIn.cons rfl (fun K hK => ?_) AllReadyIn.nil)
   ·go_simp
    refine hK _ _ ?_
    clear hK K
    refine wpAnyIn_ready (rs := [2]) (by kernel_rfl) (by simp) ?_
    refine AllReadyIn.cons rfl (fun K hK => ?_) AllReadyIn.nil
    go_simp
    refine hK _ _ ?_
    clear hK K
    refine wpAnyIn_ready (rs := [3]) (by kernel_rfl) (by simp) ?_
    refine AllReadyIn.cons rfl (fun K hK => ?_) AllReadyIn.nil
    go_simp
    refine hK _ _ ?_
    clear hK K
    refine wpAnyIn_ready (rs := [4]) (by kernel_rfl) (by simp) ?_
    refine AllReadyIn.cons rfl (fun K hK => ?_) AllReadyIn.nil
    go_simp
    refine hK _ _ ?_
    clear hK K
    refine wpAnyIn_ready (rs := [5]) (by kernel_rfl) (by simp) ?_
    refine AllReadyIn.cons rfl (fun K hK => ?_) AllReadyIn.nil
    go_simp
    refine hK _ _ ?_
    clear hK K
    refine wpAnyIn_ready (rs := [6]) (by kernel_rfl) (by simp) ?_
    refine AllReadyIn.cons rfl (fun K hK => ?_) AllReadyIn.nil
    rw [if_pos (by rfl)]
    refine wpIn_append_lies _ (.tmp 12) (.tmp 17) 23 rfl u.heap.size 43 i0 PZ 11 104 Tryz.underlying23 hi0 hz0 hz1 hz2 rfl (by decide) v pre.length (pL (preF d pre) pre.length) (by simp [Act.eval]) ((uh HOWd).alloc _) ⟨W.heap.size, 0, none⟩ 1 1 (prL (d.L i)) (by simp [Act.eval]) rfl (World.news_of_block (Deep.blk_alloc_new _ _)) (prL_one _) (by decide) (by unfold maxLen; omega) (by omega) (by simp; omega) _ rfl ?_
    intro g3 cp3 w3 hown3 hgr3 hloc3 hlt3
    obtain ⟨⟨x3, f3⟩, HN3⟩ := uh HAPP g3 cp3 w3 hown3 (grown_fromP hgr3)
    clear hown3 hgr3 hloc3
    refine hK _ _ ?_
    clear hK K
    refine wpAnyIn_ready (rs := [7]) (by kernel_rfl) (by simp) ?_
    refine AllReadyIn.cons rfl (fun K hK => ?_) AllReadyIn.nil
    go_simp
    refine hK _ _ ?_
    clear hK K
    refine wpAnyIn_done (by kernel_rfl) ?_ _
    gi_wp2
    exact HN3
   ·go_simp
    refine hK _ _ ?_
    clear hK K
    refine wpAnyIn_ready (rs := [0, 3]) (by kernel_rfl) (by simp) ?_
    refine AllReadyIn.cons rfl (fun K hK => ?_) (AllReadyIn.cons rfl (fun K hK => ?_) AllReadyIn.nil)
    ·go_simp
     refine hK _ _ ?_
     clear hK K
     refine wpAnyIn_ready (rs := [3]) (by kernel_rfl) (by simp) ?_
     refine AllReadyIn.cons rfl (fun K hK => ?_) AllReadyIn.nil
     go_simp
     refine hK _ _ ?_
     clear hK K
     refine wpAnyIn_ready (rs := [4]) (by kernel_rfl) (by simp) ?_
     refine AllReadyIn.cons rfl (fun K hK => ?_) AllReadyIn.nil
     go_simp
     refine hK _ _ ?_
     clear hK K
     refine wpAnyIn_ready (rs := [5]) (by kernel_rfl) (by simp) ?_
     refine AllReadyIn.cons rfl (fun K hK => ?_) AllReadyIn.nil
     go_simp
     refine hK _ _ ?_
     clear hK K
     refine wpAnyIn_ready (rs := [6]) (by kernel_rfl) (by simp) ?_
     refine AllReadyIn.cons rfl (fun K hK => ?_) AllReadyIn.nil
     rw [if_pos (by rfl)]
     refine wpIn_append_lies _ (.tmp 12) (.tmp 17) 23 rfl u.heap.size 43 i0 PZ 11 104 Tryz.underlying23 hi0 hz0 hz1 hz2 rfl (by decide) v pre.length (pL (preF d pre) pre.length) (by simp [Act.eval]) ((uh HOWd).alloc _) ⟨W.heap.size, 0, none⟩ 1 1 (prL (d.L i)) (by simp [Act.eval]) rfl (World.news_of_block (Deep.blk_alloc_new _ _)) (prL_one _) (by decide) (by unfold maxLen; omega) (by omega) (by simp; omega) _ rfl ?_
     intro g3 cp3 w3 hown3 hgr3 hloc3 hlt3
     obtain ⟨⟨x3, f3⟩, HN3⟩ := uh HAPP g3 cp3 w3 hown3 (grown_fromP hgr3)
     clear hown3 hgr3 hloc3
     refine hK _ _ ?_
     clear hK K
     refine wpAnyIn_ready (rs := [7]) (by kernel_rfl) (by simp) ?_
     refine AllReadyIn.cons rfl (fun K hK => ?_) AllReadyIn.nil
     go_simp
     refine hK _ _ ?_
     clear hK K
     refine wpAnyIn_done (by kernel_rfl) ?_ _
     gi_wp2
     exact HN3
    ·go_simp
     refine hK _ _ ?_
     clear hK K
     refine wpAnyIn_ready (rs := [0, 4]) (by kernel_rfl) (by simp) ?_
     refine AllReadyIn.cons rfl (fun K hK => ?_) (AllReadyIn.cons rfl (fun K hK => ?_) AllReadyIn.nil)
     ·go_simp
      refine hK _ _ ?_
      clear hK K
      refine wpAnyIn_ready (rs := [4]) (by kernel_rfl) (by simp) ?_
      refine AllReadyIn.cons rfl (fun K hK => ?_) AllReadyIn.nil
      go_simp
      refine hK _ _ ?_
      clear hK K
      refine wpAnyIn_ready (rs := [5]) (by kernel_rfl) (by simp) ?_
      refine AllReadyIn.cons rfl (fun K hK => ?_) AllReadyIn.nil
      go_simp
      refine hK _ _ ?_
      clear hK K
      refine wpAnyIn_ready (rs := [6]) (by kernel_rfl) (by simp) ?_
      refine AllReadyIn.cons rfl (fun K hK => ?_) AllReadyIn.nil
      rw [if_pos (by rfl)]
      refine wpIn_append_lies _ (.tmp 12) (.tmp 17) 23 rfl u.heap.size 43 i0 PZ 11 104 Tryz.underlying23 hi0 hz0 hz1 hz2 rfl (by decide) v pre.length (pL (preF d pre) pre.length) (by simp [Act.eval]) ((uh HOWd).alloc _) ⟨W.heap.size, 0, none⟩ 1 1 (prL (d.L i)) (by simp [Act.eval]) rfl (World.news_of_block (Deep.blk_alloc_new _ _)) (prL_one _) (by decide) (by unfold maxLen; omega) (by omega) (by simp; omega) _ rfl ?_
      intro g3 cp3 w3 hown3 hgr3 hloc3 hlt3
      obtain ⟨⟨x3, f3⟩, HN3⟩ := uh HAPP g3 cp3 w3 hown3 (grown_fromP hgr3)
      clear hown3 hgr3 hloc3
      refine hK _ _ ?_
      clear hK K
      refine wpAnyIn_ready (rs := [7]) (by kernel_rfl) (by simp) ?_
      refine AllReadyIn.cons rfl (fun K hK => ?_) AllReadyIn.nil
      go_simp
      refine hK _ _ ?_
      clear hK K
      refine wpAnyIn_done (by kernel_rfl) ?_ _
      gi_wp2
      exact HN3
     ·go_simp
      refine hK _ _ ?_
      clear hK K
      refine wpAnyIn_ready (rs := [0, 5]) (by kernel_rfl) (by simp) ?_
      refine AllReadyIn.cons rfl (fun K hK => ?_) (AllReadyIn.cons rfl (fun K hK => ?_) AllReadyIn.nil)
      ·go_simp
       refine hK _ _ ?_
       clear hK K
       refine wpAnyIn_ready (rs := [5]) (by kernel_rfl) (by simp) ?_
       refine AllReadyIn.cons rfl (fun K hK => ?_) AllReadyIn.nil
       go_simp
       refine hK _ _ ?_
       clear hK K
       refine wpAnyIn_ready (rs := [6]) (by kernel_rfl) (by simp) ?_
       refine AllReadyIn.cons rfl (fun K hK => ?_) AllReadyIn.nil
       rw [if_pos (by rfl)]
       refine wpIn_append_lies _ (.tmp 12) (.tmp 17) 23 rfl u.heap.size 43 i0 PZ 11 104 Tryz.underlying23 hi0 hz0 hz1 hz2 rfl (by decide) v pre.length (pL (preF d pre) pre.length) (by simp [Act.eval]) ((uh HOWd).alloc _) ⟨W.heap.size, 0, none⟩ 1 1 (prL (d.L i)) (by simp [Act.eval]) rfl (World.news_of_block (Deep.blk_alloc_new _ _)) (prL_one _) (by decide) (by unfold maxLen; omega) (by omega) (by simp; omega) _ rfl ?_
       intro g3 cp3 w3 hown3 hgr3 hloc3 hlt3
       obtain ⟨⟨x3, f3⟩, HN3⟩ := uh HAPP g3 cp3 w3 hown3 (grown_fromP hgr3)
       clear hown3 hgr3 hloc3
       refine hK _ _ ?_
       clear hK K
       refine wpAnyIn_ready (rs := [7]) (by kernel_rfl) (by simp) ?_
       refine AllReadyIn.cons rfl (fun K hK => ?_) AllReadyIn.nil
       go_simp
       refine hK _ _ ?_
       clear hK K
       refine wpAnyIn_done (by kernel_rfl) ?_ _
       gi_wp2
       exact HN3
      ·go_simp
       refine hK _ _ ?_
       clear hK K
       refine wpAnyIn_ready (rs := [0]) (by kernel_rfl) (by simp) ?_
       refine AllReadyIn.cons rfl (fun K hK => ?_) AllReadyIn.nil
       go_simp
       refine hK _ _ ?_
       clear hK K
       refine wpAnyIn_ready (rs := [6]) (by kernel_rfl) (by simp) ?_
       refine AllReadyIn.cons rfl (fun K hK => ?_) AllReadyIn.nil
       rw [if_pos (by rfl)]
       refine wpIn_append_lies _ (.tmp 12) (.tmp 17) 23 rfl u.heap.size 43 i0 PZ 11 104 Tryz.underlying23 hi0 hz0 hz1 hz2 rfl (by decide) v pre.length (pL (preF d pre) pre.length) (by simp [Act.eval]) ((uh HOWd).alloc _) ⟨W.heap.size, 0, none⟩ 1 1 (prL (d.L i)) (by simp [Act.eval]) rfl (World.news_of_block (Deep.blk_alloc_new _ _)) (prL_one _) (by decide) (by unfold maxLen; omega) (by omega) (by simp; omega) _ rfl ?_
       intro g3 cp3 w3 hown3 hgr3 hloc3 hlt3
       obtain ⟨⟨x3, f3⟩, HN3⟩ := uh HAPP g3 cp3 w3 hown3 (grown_fromP hgr3)
       clear hown3 hgr3 hloc3
       refine hK _ _ ?_
       clear hK K
       refine wpAnyIn_ready (rs := [7]) (by kernel_rfl) (by simp) ?_
       refine AllReadyIn.cons rfl (fun K hK => ?_) AllReadyIn.nil
       go_simp
       refine hK _ _ ?_
       clear hK K
       refine wpAnyIn_done (by kernel_rfl) ?_ _
       gi_wp2
       exact HN3
 case done =>
  rintro D ys W hD hlv ⟨v, hp, hown, hkp, hbw⟩ hK
  have hlv' : ys.map (·.1) = livL d d.n := hlv
  have hlen : ys.length = lvN d := by have := congrArg List.length hlv'; rwa [List.length_map] at this
  have hpre := preF_all hlv'
  rw [hlen, hpre] at hown
  have x0 := hp.cell (i := 0) (by omega)
  have HOW := uy hown
  have HBW := uy hbw
  have hpl := hp.lt
  clear hlv hlv' hlen hpre hp hown hkp hbw
  gi_wp2
  refine ⟨by simp, .inl ⟨_, _, rfl, run_takeDeferred hK, ?_⟩⟩
  refine ⟨v, ?_, ⟨v, rfl, ?_⟩, (uh HBW).trans (belowK_b (w := w) (Nat.le_refl _) W D _ _ (by omega) hK rfl rfl)⟩
  ·simp [results, Tryz.f21]
  ·rw [uh HR]
   exact own_mono (own_keptO (D := D) (uh HOW) (grownBy_putObj' W D (.deferred none)) (fun r e => by cases e; exact ⟨Nat.le_refl _, _, hK, rfl⟩)) hwu
 case stop =>
  rintro D c pre W hD hpre h hK
  exact h.elim
end
section
open Go.RowKit
def ptL (f : Nat → Option Addr) : Nat → List Value
 | 0 => []
 | k + 1 => ptL f k ++ [.pointer (f k)]
theorem ptL_length (f : Nat → Option Addr) (n : Nat) : (ptL f n).length = n := by
 induction n with
 | zero => rfl
 | succ n ih => simp [ptL, ih]
theorem ptL_get {f : Nat → Option Addr} {n i : Nat} (hi : i < n) : (ptL f n)[i]? = some (.pointer (f i)) := by
 induction n with
 | zero => omega
 | succ n ih =>
  show (ptL f n ++ [.pointer (f n)])[i]? = _
  by_cases h : i < n
  ·rw [List.getElem?_append_left (by rw [ptL_length]; omega), ih h]
  ·have : i = n := by omega
   subst this
   rw [List.getElem?_append_right (by rw [ptL_length]; omega), ptL_length]
   simp
theorem ptL_ext {f : Nat → Option Addr} {n : Nat} {xs : List Value} (hl : xs.length = n) (h : ∀ i, i < n → xs[i]? = some (.pointer (f i))) : xs = ptL f n := by
 apply List.ext_getElem?
 intro q
 by_cases hq : q < n
 ·rw [h q hq, ptL_get hq]
 ·rw [List.getElem?_eq_none (by omega), List.getElem?_eq_none (by rw [ptL_length]; omega)]
theorem ptL_congr {f g : Nat → Option Addr} {n : Nat} (h : ∀ i, i < n → f i = g i) : ptL f n = ptL g n := ptL_ext (ptL_length f n) (fun i hi => by rw [ptL_get hi, h i hi])
theorem ptL_set (f : Nat → Option Addr) (n i : Nat) (a : Option Addr) (hi : i < n) : (ptL f n).set i (.pointer a) = ptL (upd f i a) n := by
 refine ptL_ext (by rw [List.length_set, ptL_length]) (fun q hq => ?_)
 rw [List.getElem?_set]
 by_cases e : i = q
 ·subst e; rw [if_pos rfl, if_pos (by rw [ptL_length]; omega), upd_same]
 ·rw [if_neg e, ptL_get hq, upd_other _ _ (fun e' => e e'.symm)]
theorem ptL_snoc (f : Nat → Option Addr) (n : Nat) (a : Option Addr) : ptL f n ++ [.pointer a] = ptL (upd f n a) (n + 1) := by
 show _ = ptL (upd f n a) n ++ [.pointer (upd f n a n)]
 rw [upd_same, ptL_congr (f := upd f n a) (g := f) (fun i hi => upd_other _ _ (by omega))]
theorem ptL_take (f : Nat → Option Addr) (n j : Nat) (h : j ≤ n) : (ptL f n).take j = ptL f j := by
 refine ptL_ext (by rw [List.length_take, ptL_length]; omega) (fun q hq => ?_)
 rw [List.getElem?_take, if_pos hq, ptL_get (by omega)]
abbrev tEnt : TypeId := 89
abbrev tSlt : TypeId := 117
abbrev Rw (w : World) (B : Nat) (t : TypeId) (v : Value) (n : Nat) (f : Nat → Option Addr) : Prop := w.ownsRow B t 1 v n (ptL f n)
theorem Rw.form {w : World} {B n : Nat} {t : TypeId} {v : Value} {f : Nat → Option Addr} (h : Rw w B t v n f) (hn : 0 < n) : ∃ g cp, v = .slice (some ⟨g, 0, none⟩) n cp ∧ B ≤ g ∧ g < w.heap.size ∧ n ≤ cp ∧ (∀ i, i < n → w.cell? ⟨g, i, none⟩ = some (.pointer (f i))) ∧ ∀ q, w.frozen? ⟨g, q, none⟩ = false := by
 have h' := h
 obtain ⟨hl, ⟨hv, h0⟩ | ⟨g, cap, cur, hv, hb, hblk, h1, h2, h3, h4⟩⟩ := h'
 ·omega
 ·subst hv
  exact ⟨g, cap, rfl, hb, (h.lt g rfl).2, h1, fun i hi => by rw [World.ownsRow.cellAt h _ (by omega), ptL_get hi], fun q => World.ownsRow.frozenAt h q⟩
theorem Rw.slice {w : World} {B n : Nat} {t : TypeId} {v : Value} {f : Nat → Option Addr} (h : Rw w B t v n f) : ∃ a cp, v = .slice a n cp := by
 obtain ⟨hl, ⟨hv, h0⟩ | ⟨g, cap, cur, hv, _⟩⟩ := h
 ·subst h0; exact ⟨none, 0, hv⟩
 ·exact ⟨_, _, hv⟩
theorem Rw.set {w : World} {B g n cp : Nat} {t : TypeId} {f : Nat → Option Addr} (h : Rw w B t (.slice (some ⟨g, 0, none⟩) n cp) n f) {i : Nat} (hi : i < n) (a : Option Addr) : Rw (w.setCell ⟨g, i, none⟩ (.pointer a)) B t (.slice (some ⟨g, 0, none⟩) n cp) n (upd f i a) := by
 have h1 := (World.ownsRow.stored h i (.pointer a)).1
 rw [ptL_set f n i a hi] at h1
 exact h1
theorem Rw.cut {w : World} {B g n cp : Nat} {t : TypeId} {f : Nat → Option Addr} (h : Rw w B t (.slice (some ⟨g, 0, none⟩) n cp) n f) {j : Nat} (hj : j ≤ n) : Rw w B t (.slice (some ⟨g, 0, none⟩) j cp) j f := by
 obtain ⟨hl, ⟨hv, h0⟩ | ⟨g', cap, cur, hv, hb, hblk, h1, h2, h3, h4⟩⟩ := h
 ·cases hv
 ·cases hv
  refine ⟨by rw [ptL_length]; omega, .inr ⟨g, cp, cur, rfl, hb, hblk, by omega, h2, h3, ?_⟩⟩
  have : cur.toList.take (j * 1) = (cur.toList.take (n * 1)).take j := by rw [List.take_take]; congr 1; omega
  rw [this, h4, ptL_take f n j hj]
theorem Rw.congr {w : World} {B n : Nat} {t : TypeId} {v : Value} {f g : Nat → Option Addr} (h : Rw w B t v n f) (e : ∀ i, i < n → g i = f i) : Rw w B t v n g := by
 show w.ownsRow _ _ _ _ _ (ptL g n)
 rw [ptL_congr e]
 exact h
theorem Ptrs.own {w : World} {R n B : Nat} {t : TypeId} {f : Nat → Option Addr} (h : Ptrs w R n t f) (hB : B ≤ R) (hn : n ≤ 4194304) : Rw w B t (.slice (some ⟨R, 0, none⟩) n n) n f := by
 obtain ⟨g, ⟨c, hb, hs, hc⟩, hg⟩ := h
 refine ⟨by rw [ptL_length]; omega, .inr ⟨R, n, c, rfl, hB, hb, Nat.le_refl _, by unfold maxLen; omega, by omega, ?_⟩⟩
 refine ptL_ext (by rw [List.length_take, Array.length_toList]; omega) (fun i hi => ?_)
 rw [List.getElem?_take, if_pos (by omega), Array.getElem?_toList, hc i hi, hg i hi]
theorem type_apart {w : World} {b : Nat} {c c' : Array Value} {t t' : TypeId} {fr fr' : Nat × Nat} (h : w.heap[b]? = some (.cells c t fr)) (h' : w.heap[b]? = some (.cells c' t' fr')) (hne : t ≠ t') : False := by
 rw [h] at h'
 cases h'
 exact hne rfl
theorem Rw.block {w : World} {B n b : Nat} {t : TypeId} {v : Value} {f : Nat → Option Addr} (h : Rw w B t v n f) (e : v.ownBlock = some b) : ∃ c, w.heap[b]? = some (.cells c t (0, 0)) := by
 obtain ⟨hl, ⟨hv, h0⟩ | ⟨g, cap, cur, hv, hb, hblk, _⟩⟩ := h
 ·subst hv; cases e
 ·subst hv
  have e' : g = b := by simpa [Value.ownBlock] using e
  subst e'
  exact ⟨cur, hblk⟩
theorem kept_ne' {w w3 : World} {B e size n : Nat} {v : Value} {xs : List Value} {row : Option Nat} (h : w.ownsRow B e size v n xs) (hg : w.grownBy w3 row) (hr : ∀ b, row = some b → v.ownBlock ≠ some b) : w3.ownsRow B e size v n xs := by
 cases hv : v.ownBlock with
 | none => exact h.kept hg (.inl hv)
 | some b => exact h.kept hg (.inr (by rw [hv]; intro e; exact hr b e.symm hv))
structure BMut (w : World) (bk : Nat) (r0 r1 : Value) (R2 : Nat) (E S : Nat → Nat) (d : Dc) : Prop where
 lt : bk < w.heap.size
 c0 : w.cell? ⟨bk, 0, none⟩ = some r0
 c1 : w.cell? ⟨bk, 1, none⟩ = some r1
 c2 : w.cell? ⟨bk, 2, none⟩ = some hashF
 c3 : w.cell? ⟨bk, 3, none⟩ = some (.slice (some ⟨R2, 0, none⟩) d.x d.x)
 c4 : w.cell? ⟨bk, 4, none⟩ = some (.int .i64 d.used)
 c5 : w.cell? ⟨bk, 5, none⟩ = some (.int .i64 d.live)
 c6 : w.cell? ⟨bk, 6, none⟩ = some (.int .i64 d.turns)
 fz : ∀ q, w.frozen? ⟨bk, q, none⟩ = false
 log : Rw w (bk + 1) tEnt r0 d.n (fun i => some ⟨E i, 0, none⟩)
 ints : Rw w (bk + 1) tEnt r1 d.m (fun i => entP E (d.I i))
 rf : ∃ R1 k1, r1 = .slice (some ⟨R1, 0, none⟩) d.m k1
 slots : Rw w (bk + 1) tSlt (.slice (some ⟨R2, 0, none⟩) d.x d.x) d.x (fun j => sltP S j (d.X j))
 ap : ∀ q, r0.ownBlock = some q → r1.ownBlock ≠ some q
 ent : ∀ i, i < d.n → ECell w (E i) (d.L i) i
 eb : ∀ i, i < d.n → bk < E i
 inj : ∀ i j, i < d.n → j < d.n → E i = E j → i = j
 sl : ∀ j, j < d.x → SlotIs w E S d j
 sg : ∀ j, j < d.x → d.X j ≠ 0 → bk < S j
theorem BMut.of_open {w : World} {B bk R0 R1 R2 : Nat} {E S : Nat → Nat} {d : Dc} (h : Book w bk R0 R1 R2 E S d) (s : Strong w B bk R0 R1 R2 E S d) (hS : Small d) : BMut w bk (.slice (some ⟨R0, 0, none⟩) d.n d.n) (.slice (some ⟨R1, 0, none⟩) d.m d.m) R2 E S d :=
 ⟨h.lt, s.e0, s.e1, h.c2, h.c3, h.c4, h.c5, h.c6, s.fz, s.o0.own s.g0 hS.n, s.o1.own s.g1 hS.m, ⟨_, _, rfl⟩, s.o2.own s.g2 hS.x, fun q e e' => by
  have e1 : R0 = q := by simpa [Value.ownBlock] using e
  have e2 : R1 = q := by simpa [Value.ownBlock] using e'
  exact s.r01 (e1.trans e2.symm), h.ent, s.gE, h.inj, h.sl, fun j hj h0 => Nat.lt_trans s.g2 (s.gS j hj h0)⟩
theorem BMut.r2_lt {w : World} {bk : Nat} {r0 r1 : Value} {R2 : Nat} {E S : Nat → Nat} {d : Dc} (h : BMut w bk r0 r1 R2 E S d) : bk < R2 ∧ R2 < w.heap.size := h.slots.lt R2 rfl
theorem BMut.book {w : World} {bk : Nat} {r0 r1 : Value} {R2 : Nat} {E S : Nat → Nat} {d : Dc} (h : BMut w bk r0 r1 R2 E S d) : ∃ R0 R1, Book w bk R0 R1 R2 E S d := by
 obtain ⟨R1, k1, e1⟩ := h.rf
 have h1l := h.ints.lt R1 (by rw [e1]; rfl)
 have hi : ∀ i, i < d.m → w.cell? ⟨R1, i, none⟩ = some (.pointer (entP E (d.I i))) := fun i hi => by
  obtain ⟨g, cp, e, _, _, _, hc, _⟩ := h.ints.form (by omega)
  rw [e1] at e
  cases e
  exact hc i hi
 have hx : ∀ j, j < d.x → w.cell? ⟨R2, j, none⟩ = some (.pointer (sltP S j (d.X j))) := fun j hj => by
  obtain ⟨g, cp, e, _, _, _, hc, _⟩ := h.slots.form (by omega)
  cases e
  exact hc j hj
 by_cases hn : 0 < d.n
 ·obtain ⟨g, cp, e, hB, hl, _, hc, _⟩ := h.log.form hn
  refine ⟨g, R1, h.lt, ⟨_, _, by rw [h.c0, e], fun _ => rfl⟩, ⟨k1, by rw [h.c1, e1]⟩, h.c2, h.c3, h.c4, h.c5, h.c6, hc, h.ent, h.inj, hi, hx, h.sl, hl, h1l.2, h.r2_lt.2⟩
 ·obtain ⟨a, cp, e⟩ := h.log.slice
  exact ⟨bk, R1, h.lt, ⟨_, _, by rw [h.c0, e], fun h' => absurd h' hn⟩, ⟨k1, by rw [h.c1, e1]⟩, h.c2, h.c3, h.c4, h.c5, h.c6, fun i hi => by omega, h.ent, h.inj, hi, hx, h.sl, h.lt, h1l.2, h.r2_lt.2⟩
theorem SlotIs.keep {w w' : World} {E S : Nat → Nat} {d : Dc} {j : Nat} (h : SlotIs w E S d j) (hs : w.heap.size ≤ w'.heap.size) (e : ∀ c, w.heap[S j]? = some (.cells c 119 (0, 0)) → w'.heap[S j]? = w.heap[S j]?) : SlotIs w' E S d j :=
 ⟨fun hp => (h.1 hp).keep hs (e _ (h.1 hp).ob), fun hp => (h.2 hp).keep hs (e _ (h.2 hp).ob)⟩
theorem BMut.below {w w' : World} {bk : Nat} {r0 r1 : Value} {R2 : Nat} {E S : Nat → Nat} {d : Dc} (h : BMut w bk r0 r1 R2 E S d) (hb : Below w.heap.size w w') : BMut w' bk r0 r1 R2 E S d := by
 have e : ∀ q, w'.cell? ⟨bk, q, none⟩ = w.cell? ⟨bk, q, none⟩ := fun q => hb.cell (p := ⟨bk, q, none⟩) h.lt
 exact ⟨Nat.lt_of_lt_of_le h.lt hb.size, (e _).trans h.c0, (e _).trans h.c1, (e _).trans h.c2, (e _).trans h.c3, (e _).trans h.c4, (e _).trans h.c5, (e _).trans h.c6, fun q => (hb.frozen (p := ⟨bk, q, none⟩) h.lt).trans (h.fz q), own_block h.log hb.size (fun q _ hq => hb.block q hq), own_block h.ints hb.size (fun q _ hq => hb.block q hq), h.rf, own_block h.slots hb.size (fun q _ hq => hb.block q hq), h.ap, fun i hi => (h.ent i hi).keep hb.size (hb.block _ (h.ent i hi).lt), h.eb, h.inj, fun j hj => (h.sl j hj).keep hb.size (fun c hc => hb.block _ (Array.getElem?_eq_some_iff.1 hc).1), h.sg⟩
theorem BMut.of_same {w : World} {bk : Nat} {r0 r1 : Value} {R2 : Nat} {E S E' : Nat → Nat} {d e : Dc} (h : BMut w bk r0 r1 R2 E S d) (n : e.n = d.n) (m : e.m = d.m) (x : e.x = d.x) (u : e.used = d.used) (l : e.live = d.live) (t : e.turns = d.turns) (I : ∀ i, i < d.m → e.I i = d.I i) (X : ∀ j, j < d.x → e.X j = d.X j)
  (L : ∀ i, i < d.n → e.L i = d.L i) (hE : ∀ i, i < d.n → E' i = E i) (hI : ∀ i, i < d.m → d.I i ≤ d.n) (hX : ∀ j, j < d.x → d.X j ≤ d.n) : BMut w bk r0 r1 R2 E' S e := by
 have eP : ∀ p : Int, p ≤ d.n → entP E' p = entP E p := fun p hp => by
  unfold entP
  by_cases h0 : 0 < p
  ·rw [if_pos h0, if_pos h0, hE _ (by omega)]
  ·rw [if_neg h0, if_neg h0]
 refine ⟨h.lt, h.c0, h.c1, h.c2, by rw [x]; exact h.c3, by rw [u]; exact h.c4, by rw [l]; exact h.c5, by rw [t]; exact h.c6, h.fz, ?_, ?_, by rw [m]; exact h.rf, ?_, h.ap, fun i hi => ?_, fun i hi => ?_, fun i j hi hj => ?_, fun j hj => ?_, fun j hj h0 => h.sg j (by omega) (by rw [← X j (by omega)]; exact h0)⟩
 ·show w.ownsRow _ _ _ _ e.n (ptL _ e.n)
  rw [n]
  exact h.log.congr (fun i hi => by rw [hE i hi])
 ·show w.ownsRow _ _ _ _ e.m (ptL _ e.m)
  rw [m]
  exact h.ints.congr (fun i hi => by rw [I i hi, eP _ (hI i hi)])
 ·rw [x]
  exact h.slots.congr (fun j hj => by rw [X j hj])
 ·rw [n] at hi; rw [hE i hi, L i hi]; exact h.ent i hi
 ·rw [n] at hi; rw [hE i hi]; exact h.eb i hi
 ·rw [n] at hi hj; rw [hE i hi, hE j hj]; exact h.inj i j hi hj
 ·rw [x] at hj
  have hs := h.sl j hj
  unfold SlotIs at hs ⊢
  rw [X j hj]
  refine ⟨fun hp => ?_, hs.2⟩
  have hl := hX j hj
  have : e.at (d.X j) = d.at (d.X j) := L _ (by omega)
  rw [this, hE _ (by omega)]
  exact hs.1 hp
section
variable {w : World} {bk : Nat} {r0 r1 : Value} {R2 : Nat} {E S : Nat → Nat} {d : Dc}
theorem BMut.fld (h : BMut w bk r0 r1 R2 E S d) {q : Nat} {u : Value} {s0 s1 : Value} {Q2 : Nat} {S' : Nat → Nat} {e : Dc}
  (g0 : (w.setCell ⟨bk, q, none⟩ u).cell? ⟨bk, 0, none⟩ = some s0) (g1 : (w.setCell ⟨bk, q, none⟩ u).cell? ⟨bk, 1, none⟩ = some s1) (g2 : (w.setCell ⟨bk, q, none⟩ u).cell? ⟨bk, 2, none⟩ = some hashF) (g3 : (w.setCell ⟨bk, q, none⟩ u).cell? ⟨bk, 3, none⟩ = some (.slice (some ⟨Q2, 0, none⟩) e.x e.x))
  (g4 : (w.setCell ⟨bk, q, none⟩ u).cell? ⟨bk, 4, none⟩ = some (.int .i64 e.used)) (g5 : (w.setCell ⟨bk, q, none⟩ u).cell? ⟨bk, 5, none⟩ = some (.int .i64 e.live)) (g6 : (w.setCell ⟨bk, q, none⟩ u).cell? ⟨bk, 6, none⟩ = some (.int .i64 e.turns))
  (l : Rw w (bk + 1) tEnt s0 e.n (fun i => some ⟨E i, 0, none⟩)) (i : Rw w (bk + 1) tEnt s1 e.m (fun i => entP E (e.I i))) (rf : ∃ R1 k1, s1 = .slice (some ⟨R1, 0, none⟩) e.m k1) (x : Rw w (bk + 1) tSlt (.slice (some ⟨Q2, 0, none⟩) e.x e.x) e.x (fun j => sltP S' j (e.X j))) (ap : ∀ q, s0.ownBlock = some q → s1.ownBlock ≠ some q)
  (en : ∀ i, i < e.n → ECell w (E i) (e.L i) i) (eb : ∀ i, i < e.n → bk < E i) (inj : ∀ i j, i < e.n → j < e.n → E i = E j → i = j) (sl : ∀ j, j < e.x → SlotIs w E S' e j) (sb : ∀ j, j < e.x → e.X j ≠ 0 → bk < S' j) : BMut (w.setCell ⟨bk, q, none⟩ u) bk s0 s1 Q2 E S' e := by
 have ob : ∀ b, b ≠ bk → (w.setCell ⟨bk, q, none⟩ u).heap[b]? = w.heap[b]? := fun b hb => Deep.blk_setCell_other _ _ _ _ (by exact hb)
 have nb : ∀ {v : Value} {n : Nat} {f : Nat → Option Addr} {t : TypeId}, Rw w (bk + 1) t v n f → v.ownBlock ≠ some bk := fun hh e => by have := (hh.lt bk e).1; omega
 have hsz : w.heap.size ≤ (w.setCell ⟨bk, q, none⟩ u).heap.size := by simp
 refine ⟨by simpa using h.lt, g0, g1, g2, g3, g4, g5, g6, fun p => by rw [World.frozen?_setCell]; exact h.fz p, World.ownsRow.kept l (grown_setCell w _ _) (.inr (nb l)), World.ownsRow.kept i (grown_setCell w _ _) (.inr (nb i)), rf, World.ownsRow.kept x (grown_setCell w _ _) (.inr (nb x)), ap, fun i hi => (en i hi).keep hsz (ob _ (by have := eb i hi; omega)), eb, inj, fun j hj => ?_, sb⟩
 by_cases h0 : e.X j = 0
 ·exact ⟨fun hp => by omega, fun hp => by omega⟩
 ·exact (sl j hj).keep hsz (fun c _ => ob _ (by have := sb j hj h0; omega))
theorem BMut.setUsed (h : BMut w bk r0 r1 R2 E S d) (u : Int) : BMut (w.setCell ⟨bk, 4, none⟩ (.int .i64 u)) bk r0 r1 R2 E S { d with used := u } :=
 h.fld ((cell_set_other (by decide)).trans h.c0) ((cell_set_other (by decide)).trans h.c1) ((cell_set_other (by decide)).trans h.c2) ((cell_set_other (by decide)).trans h.c3) (World.cell?_setCell_same' _ _ _ (by rw [h.c4]; rfl)) ((cell_set_other (by decide)).trans h.c5) ((cell_set_other (by decide)).trans h.c6) h.log h.ints h.rf h.slots h.ap h.ent h.eb h.inj h.sl h.sg
theorem BMut.setLive (h : BMut w bk r0 r1 R2 E S d) (u : Int) : BMut (w.setCell ⟨bk, 5, none⟩ (.int .i64 u)) bk r0 r1 R2 E S { d with live := u } :=
 h.fld ((cell_set_other (by decide)).trans h.c0) ((cell_set_other (by decide)).trans h.c1) ((cell_set_other (by decide)).trans h.c2) ((cell_set_other (by decide)).trans h.c3) ((cell_set_other (by decide)).trans h.c4) (World.cell?_setCell_same' _ _ _ (by rw [h.c5]; rfl)) ((cell_set_other (by decide)).trans h.c6) h.log h.ints h.rf h.slots h.ap h.ent h.eb h.inj h.sl h.sg
theorem BMut.setTurns (h : BMut w bk r0 r1 R2 E S d) (u : Int) : BMut (w.setCell ⟨bk, 6, none⟩ (.int .i64 u)) bk r0 r1 R2 E S { d with turns := u } :=
 h.fld ((cell_set_other (by decide)).trans h.c0) ((cell_set_other (by decide)).trans h.c1) ((cell_set_other (by decide)).trans h.c2) ((cell_set_other (by decide)).trans h.c3) ((cell_set_other (by decide)).trans h.c4) ((cell_set_other (by decide)).trans h.c5) (World.cell?_setCell_same' _ _ _ (by rw [h.c6]; rfl)) h.log h.ints h.rf h.slots h.ap h.ent h.eb h.inj h.sl h.sg
theorem BMut.setInts (h : BMut w bk r0 r1 R2 E S d) {u : Value} {m : Nat} {I : Nat → Int} (i : Rw w (bk + 1) tEnt u m (fun i => entP E (I i))) (rf : ∃ R1 k1, u = .slice (some ⟨R1, 0, none⟩) m k1) (ap : ∀ q, r0.ownBlock = some q → u.ownBlock ≠ some q) : BMut (w.setCell ⟨bk, 1, none⟩ u) bk r0 u R2 E S { d with m := m, I := I } :=
 h.fld ((cell_set_other (by decide)).trans h.c0) (World.cell?_setCell_same' _ _ _ (by rw [h.c1]; rfl)) ((cell_set_other (by decide)).trans h.c2) ((cell_set_other (by decide)).trans h.c3) ((cell_set_other (by decide)).trans h.c4) ((cell_set_other (by decide)).trans h.c5) ((cell_set_other (by decide)).trans h.c6) h.log i rf h.slots ap h.ent h.eb h.inj h.sl h.sg
theorem BMut.setSlots (h : BMut w bk r0 r1 R2 E S d) {Q2 x : Nat} {X : Nat → Int} (i : Rw w (bk + 1) tSlt (.slice (some ⟨Q2, 0, none⟩) x x) x (fun j => sltP S j (X j))) (sl : ∀ j, j < x → SlotIs w E S { d with x := x, X := X } j) (sg : ∀ j, j < x → X j ≠ 0 → bk < S j) : BMut (w.setCell ⟨bk, 3, none⟩ (.slice (some ⟨Q2, 0, none⟩) x x)) bk r0 r1 Q2 E S { d with x := x, X := X } :=
 h.fld ((cell_set_other (by decide)).trans h.c0) ((cell_set_other (by decide)).trans h.c1) ((cell_set_other (by decide)).trans h.c2) (World.cell?_setCell_same' _ _ _ (by rw [h.c3]; rfl)) ((cell_set_other (by decide)).trans h.c4) ((cell_set_other (by decide)).trans h.c5) ((cell_set_other (by decide)).trans h.c6) h.log h.ints h.rf i h.ap h.ent h.eb h.inj sl sg
theorem BMut.row (h : BMut w bk r0 r1 R2 E S d) {g q : Nat} {u : Value} (hg : bk < g) {e : Dc} (hx : e.x = d.x) (hu : e.used = d.used) (hl : e.live = d.live) (ht : e.turns = d.turns) (hm : e.m = d.m)
  (l : Rw (w.setCell ⟨g, q, none⟩ u) (bk + 1) tEnt r0 e.n (fun i => some ⟨E i, 0, none⟩)) (i : Rw (w.setCell ⟨g, q, none⟩ u) (bk + 1) tEnt r1 e.m (fun i => entP E (e.I i))) (x : Rw (w.setCell ⟨g, q, none⟩ u) (bk + 1) tSlt (.slice (some ⟨R2, 0, none⟩) e.x e.x) e.x (fun j => sltP S j (e.X j)))
  (en : ∀ i, i < e.n → ECell (w.setCell ⟨g, q, none⟩ u) (E i) (e.L i) i) (eb : ∀ i, i < e.n → bk < E i) (inj : ∀ i j, i < e.n → j < e.n → E i = E j → i = j) (sl : ∀ j, j < e.x → SlotIs (w.setCell ⟨g, q, none⟩ u) E S e j) (sg : ∀ j, j < e.x → e.X j ≠ 0 → bk < S j) : BMut (w.setCell ⟨g, q, none⟩ u) bk r0 r1 R2 E S e := by
 have hc : ∀ p, (w.setCell ⟨g, q, none⟩ u).cell? ⟨bk, p, none⟩ = w.cell? ⟨bk, p, none⟩ := fun p => cell_set_block (by omega)
 exact ⟨by simpa using h.lt, (hc _).trans h.c0, (hc _).trans h.c1, (hc _).trans h.c2, by rw [hx]; exact (hc _).trans h.c3, by rw [hu]; exact (hc _).trans h.c4, by rw [hl]; exact (hc _).trans h.c5, by rw [ht]; exact (hc _).trans h.c6, fun p => by rw [World.frozen?_setCell]; exact h.fz p, l, i, by rw [hm]; exact h.rf, x, h.ap, en, eb, inj, sl, sg⟩
theorem kept_row {w : World} {B n g q : Nat} {t : TypeId} {v u : Value} {f : Nat → Option Addr} (h : Rw w B t v n f) (hne : v.ownBlock ≠ some g) : Rw (w.setCell ⟨g, q, none⟩ u) B t v n f := World.ownsRow.kept h (grown_setCell w _ _) (.inr hne)
theorem BMut.putI {R1 k1 : Nat} (h : BMut w bk r0 (.slice (some ⟨R1, 0, none⟩) d.m k1) R2 E S d) {i : Nat} (hi : i < d.m) (x : Int) : BMut (w.setCell ⟨R1, i, none⟩ (.pointer (entP E x))) bk r0 (.slice (some ⟨R1, 0, none⟩) d.m k1) R2 E S { d with I := upd d.I i x } := by
 have hR := h.ints.lt R1 rfl
 obtain ⟨c1, hb1⟩ := h.ints.block (b := R1) rfl
 obtain ⟨c2, hb2⟩ := h.slots.block (b := R2) rfl
 have hE : ∀ i, i < d.n → E i ≠ R1 := fun j hj e => type_apart ((e ▸ (h.ent j hj).ob)) hb1 (by decide)
 have ob : ∀ b, b ≠ R1 → (w.setCell ⟨R1, i, none⟩ (.pointer (entP E x))).heap[b]? = w.heap[b]? := fun b hb => Deep.blk_setCell_other _ _ _ _ (by exact hb)
 refine h.row hR.1 rfl rfl rfl rfl rfl (kept_row h.log (fun e => h.ap R1 e rfl)) ?_ (kept_row h.slots (fun e => ?_)) (fun j hj => (h.ent j hj).keep (by simp) (ob _ (hE j hj))) h.eb h.inj (fun j hj => ?_) h.sg
 ·refine (h.ints.set hi (entP E x)).congr (fun j hj => ?_)
  show entP E (upd d.I i x j) = upd (fun i => entP E (d.I i)) i (entP E x) j
  by_cases e : j = i
  ·subst e; rw [upd_same, upd_same]
  ·rw [upd_other _ _ e, upd_other _ _ e]
 ·have e' : R2 = R1 := by simpa [Value.ownBlock] using e
  subst e'
  exact type_apart hb2 hb1 (by decide)
 ·refine (h.sl j hj).keep (by simp) (fun c hc => ob _ (fun e => ?_))
  rw [e] at hc
  exact type_apart hc hb1 (by decide)
theorem BMut.putX (h : BMut w bk r0 r1 R2 E S d) {j : Nat} (hj : j < d.x) {x : Int} (hx : x ≠ 0) {A : Array Value} (hS : (0 < x → A = sltA (d.L (x - 1).toNat).key (E (x - 1).toNat)) ∧ (x < 0 → A = goneA)) :
  BMut ((w.setCell ⟨R2, j, none⟩ (.pointer (some ⟨w.heap.size, 0, none⟩))).alloc (.cells A 119)) bk r0 r1 R2 E (upd S j w.heap.size) { d with X := upd d.X j x } := by
 have hR := h.r2_lt
 obtain ⟨c2, hb2⟩ := h.slots.block (b := R2) rfl
 have hsz := h.lt
 obtain ⟨W, hW⟩ : ∃ W, W = (w.setCell ⟨R2, j, none⟩ (.pointer (some ⟨w.heap.size, 0, none⟩))).alloc (.cells A 119) := ⟨_, rfl⟩
 rw [← hW]
 have hzW : W.heap.size = w.heap.size + 1 := by rw [hW]; simp
 have ob : ∀ b, b < w.heap.size → b ≠ R2 → W.heap[b]? = w.heap[b]? := fun b hb hb' => by rw [hW]; exact (Deep.blk_alloc_lt _ _ _ (by simpa using hb)).trans (Deep.blk_setCell_other _ _ _ _ (by exact hb'))
 have hnew : W.heap[w.heap.size]? = some (.cells A 119 (0, 0)) := by
  rw [hW]
  have hg := Deep.blk_alloc_new (w.setCell ⟨R2, j, none⟩ (.pointer (some ⟨w.heap.size, 0, none⟩))) (.cells A 119)
  simpa using hg
 have gr : w.grownBy W (some R2) := ⟨by rw [hW]; rfl, by rw [hW]; rfl, by rw [hW]; rfl, by omega, fun k hk hne => ob k hk (fun e => hne (by rw [e]))⟩
 have hc : ∀ p, W.cell? ⟨bk, p, none⟩ = w.cell? ⟨bk, p, none⟩ := fun p => World.cell?_of_block (ob bk hsz (by omega))
 have kr : ∀ {v : Value} {n : Nat} {f : Nat → Option Addr}, Rw w (bk + 1) tEnt v n f → Rw W (bk + 1) tEnt v n f := fun {v n f} hh => kept_ne' hh gr (fun b e e' => by
  cases e
  obtain ⟨c, hb⟩ := hh.block e'
  exact type_apart hb2 hb (by decide))
 have hE : ∀ i, i < d.n → E i ≠ R2 := fun i hi e => type_apart (e ▸ (h.ent i hi).ob) hb2 (by decide)
 refine ⟨by omega, (hc _).trans h.c0, (hc _).trans h.c1, (hc _).trans h.c2, (hc _).trans h.c3, (hc _).trans h.c4, (hc _).trans h.c5, (hc _).trans h.c6, fun q => (World.frozen?_of_block (ob bk hsz (by omega))).trans (h.fz q), kr h.log, kr h.ints, h.rf, ?_, h.ap, fun i hi => (h.ent i hi).keep (by omega) (ob _ (h.ent i hi).lt (hE i hi)), h.eb, h.inj, fun i hi => ?_, fun i hi h0 => ?_⟩
 ·have hs := (h.slots.set hj (some ⟨w.heap.size, 0, none⟩)).alloc (.cells A 119)
  rw [← hW] at hs
  refine Rw.congr hs (fun i hi => ?_)
  show sltP (upd S j w.heap.size) i (upd d.X j x i) = upd (fun j => sltP S j (d.X j)) j (some ⟨w.heap.size, 0, none⟩) i
  by_cases e : i = j
  ·subst e
   rw [upd_same, upd_same]
   unfold sltP
   rw [if_neg hx, upd_same]
  ·rw [upd_other _ _ e, upd_other _ _ e]
   unfold sltP
   rw [upd_other _ _ e]
 ·unfold SlotIs
  show (0 < upd d.X j x i → SCell W (upd S j w.heap.size i) (d.L (upd d.X j x i - 1).toNat).key (E (upd d.X j x i - 1).toNat)) ∧ (upd d.X j x i < 0 → GCell W (upd S j w.heap.size i))
  by_cases e : i = j
  ·subst e
   rw [upd_same, upd_same]
   refine ⟨fun hp => ?_, fun hp => ?_⟩
   ·have hA := hS.1 hp
    subst hA
    exact ⟨by omega, by simp [World.cell?, hnew], by simp [World.cell?, hnew], by simp [World.cell?, hnew], by simp [World.cell?, hnew], by simp [World.cell?, hnew], by simp [World.cell?, hnew], by simp [World.cell?, hnew], hnew⟩
   ·have hA := hS.2 hp
    subst hA
    exact ⟨by omega, by simp [World.cell?, hnew], hnew⟩
  ·rw [upd_other _ _ e, upd_other _ _ e]
   have hk := (h.sl i hi).keep (w' := W) (by omega) (fun c hc => ob _ (Array.getElem?_eq_some_iff.1 hc).1 (fun e' => by rw [e'] at hc; exact type_apart hc hb2 (by decide)))
   exact hk
 ·by_cases e : i = j
  ·subst e; rw [upd_same]; exact hsz
  ·rw [upd_other _ _ e]
   exact h.sg i hi (by have h0' : upd d.X j x i ≠ 0 := h0; rwa [upd_other _ _ e] at h0')
end
end
section
open Go.RowKit
attribute [local go_sem] run_store_float run_equalIn_float
def looseK (d : Dc) : Prop := 8 ≤ d.n ∧ 2 * d.live < (d.n : Int)
set_option maxRecDepth 100000 in
set_option maxHeartbeats 2000000 in
theorem isLoose_any (bk : Nat) (r0 r1 : Value) (R2 : Nat) (E S : Nat → Nat) (d : Dc) (w : World) (hM : BMut w bk r0 r1 R2 E S d) (hS : Small d) (hl : 0 ≤ d.live) (hl' : d.live ≤ 500) :
  Calls Tryz.prog 123 #[.pointer (some ⟨bk, 0, none⟩)] w fun e w' => e = .returned (.bool (tells (looseK d))) ∧ Below w.heap.size w w' := by
 obtain ⟨a, cp, rfl⟩ := hM.log.slice
 have c0 := hM.c0
 have c5 := hM.c5
 have hlt := hM.lt
 have hn := hS.n
 clear hM hS
 by_cases h8 : (8 : Int) ≤ d.n
 case neg =>
  have HT := uy (tells_no (p := looseK d) (fun h => h8 (by have := h.1; omega)))
  have h8' : decide ((8 : Int) ≤ d.n) = false := by simp; omega
  go_enter Tryz.func123, Tryz.ntmps123
  go_wp2
  go_region
  go_wp2
  go_ret
  exact ⟨by rw [uh HT]; rfl, (Below.refl _ _).drew⟩
 have h8' : decide ((8 : Int) ≤ d.n) = true := by simp; omega
 by_cases h2 : 2 * d.live < (d.n : Int)
 ·have HT := uy (tells_yes (p := looseK d) ⟨by omega, h2⟩)
  have h2' : decide (2 * d.live < (d.n : Int)) = true := by simp; omega
  go_enter Tryz.func123, Tryz.ntmps123
  go_wp2
  go_region
  go_wp2
  go_ret
  exact ⟨by rw [uh HT]; rfl, (Below.refl _ _).drew⟩
 ·have HT := uy (tells_no (p := looseK d) (fun h => h2 h.2))
  have h2' : decide (2 * d.live < (d.n : Int)) = false := by simp; omega
  go_enter Tryz.func123, Tryz.ntmps123
  go_wp2
  go_region
  go_wp2
  go_ret
  exact ⟨by rw [uh HT]; rfl, (Below.refl _ _).drew⟩
set_option maxRecDepth 100000 in
set_option maxHeartbeats 2000000 in
theorem indexSize_any (n : Nat) (w : World) (hn : n ≤ 500) :
  Calls Tryz.prog 155 #[.int .i64 (n : Int)] w fun e w' => e = .returned (.int .i64 ((if n = 0 then 0 else sizeFor n : Nat) : Int)) ∧ Below w.heap.size w w' := by
 by_cases h0 : n = 0
 ·subst h0
  go_enter Tryz.func155, Tryz.ntmps155
  go_wp2
  go_ret
  exact ⟨rfl, Below.refl _ _⟩
 have HR : Hid ((if n = 0 then 0 else sizeFor n : Nat) = sizeGo 9 8 (4 * n)) := uy (if_neg h0)
 have h0' : ((n : Int) == 0) = false := by simp; omega
 go_enter Tryz.func155, Tryz.ntmps155
 go_wp2
 go_loopw [3] (fun i wr => ∃ (k s : Nat), k ≤ 9 ∧ i = .int .i64 (s : Int) ∧ s ≤ 4000 ∧ 8 ≤ s ∧ 2000 ≤ s * 2 ^ k ∧ sizeGo 9 8 (4 * n) = sizeGo k s (4 * n) ∧ Below w.heap.size w wr) (fun i _ => 4000 - (intOf i).toNat)
 case atStart => exact ⟨9, 8, by omega, rfl, by omega, by omega, by decide, rfl, Below.refl _ _⟩
 case round =>
  obtain ⟨k, s, hk, rfl, hs, hs8, h2, hg, hb⟩ := hrel
  by_cases hlt : s < 4 * n
  ·obtain ⟨k', rfl⟩ : ∃ k', k = k' + 1 := ⟨k - 1, by
    cases k with
    | zero => simp at h2; omega
    | succ k => omega⟩
   have HG : Hid (sizeGo 9 8 (4 * n) = sizeGo k' (2 * s) (4 * n)) := uy (hg.trans (if_pos hlt))
   have H2 : Hid (2000 ≤ 2 * s * 2 ^ k') := uy (by rw [Nat.pow_succ] at h2; calc 2000 ≤ s * (2 ^ k' * 2) := h2
    _ = 2 * s * 2 ^ k' := by rw [Nat.mul_comm (2 ^ k') 2, ← Nat.mul_assoc, Nat.mul_comm s 2])
   have HB := uy hb
   clear hg h2 hb
   go_wp2
   go_roundw
   case rel => exact ⟨k', 2 * s, by omega, by go_num, by omega, by omega, uh H2, uh HG, uh HB⟩
   case measure => simp [intOf]; omega
  ·have HG : Hid (sizeGo 9 8 (4 * n) = s) := uy (hg.trans (by cases k with
    | zero => rfl
    | succ k => exact if_neg hlt))
   have HB := uy hb
   clear hg h2 hb
   go_wp2
   go_ret
   exact ⟨by rw [show sizeFor n = s from uh HG]; rfl, uh HB⟩
end
section
open Go.RowKit
attribute [local go_sem] run_store_float run_equalIn_float
def lenB (w : World) (b q : Nat) : Nat := match w.cell? ⟨b, q, none⟩ with
 | some (.slice _ n _) => n
 | _ => 0
theorem lenB_is {w : World} {b q n c : Nat} {a : Option Addr} (h : w.cell? ⟨b, q, none⟩ = some (.slice a n c)) : lenB w b q = n := by unfold lenB; rw [h]
set_option maxRecDepth 100000 in
set_option maxHeartbeats 2000000 in
theorem removeInt_any (bk : Nat) (r0 r1 : Value) (R2 : Nat) (E S : Nat → Nat) (d : Dc) (q : Nat) (w : World) (hM : BMut w bk r0 r1 R2 E S d) (hS : Small d) (hq : q < d.m) (hI : ∀ j, j < d.m → 0 ≤ d.I j) :
  Calls Tryz.prog 121 #[.pointer (some ⟨bk, 0, none⟩), .int .i64 ((q : Int) + 1)] w fun e w' => ((∃ u, e = .returned u) ∧ ∃ r1', BMut w' bk r0 r1' R2 E S { d with m := shrink (upd d.I q 0) d.m, I := upd d.I q 0 }) ∧ Below bk w w' := by
 obtain ⟨R1, k1, rfl⟩ := hM.rf
 have hmm := hS.m
 have hlt := hM.lt
 have c1 := hM.c1
 have hR := hM.ints.lt R1 rfl
 have hR1 := hR.2
 obtain ⟨g, cp, e, _, _, hcp, hc, hf⟩ := hM.ints.form (by omega)
 cases e
 have d0 := hc q hq
 have f0 := hf q
 have hI' : ∀ j, j < d.m → 0 ≤ upd d.I q 0 j := fun j hj => by
  by_cases e : j = q
  ·subst e; rw [upd_same]; exact Int.le_refl _
  ·rw [upd_other _ _ e]; exact hI j hj
 have hM0 := hM.putI hq 0
 have he0 : entP E 0 = none := if_neg (by decide)
 rw [he0] at hM0
 have HM0 := uy hM0
 have HB0 : Hid (Below bk w (w.setCell ⟨R1, q, none⟩ (.pointer none))) := uy ((Below.refl _ _).setCell (by show bk ≤ R1; omega) _)
 have HI := uy hI'
 clear hM hS hc hf hR hM0 hI hI' he0
 go_enter Tryz.func121, Tryz.ntmps121
 go_wp2
 clear c1 d0 f0
 go_loopw [11] (fun _ wr => ∃ k : Nat, k ≤ d.m ∧ BMut wr bk r0 (.slice (some ⟨R1, 0, none⟩) k k1) R2 E S { d with m := k, I := upd d.I q 0 } ∧ Below bk w wr ∧ shrink (upd d.I q 0) d.m = shrink (upd d.I q 0) k) (fun _ wr => lenB wr bk 1)
 case atStart => exact ⟨d.m, Nat.le_refl _, uh HM0, uh HB0, rfl⟩
 case round =>
  obtain ⟨k, hk, hM, hB, hsh⟩ := hrel
  have c1 := hM.c1
  have f1 := hM.fz 1
  have hltr := hM.lt
  have hlen := lenB_is c1
  cases k with
  | zero =>
   have HR : Hid (shrink (upd d.I q 0) d.m = 0) := uy hsh
   have HM := uy hM
   have HB := uy hB
   clear hM hB hsh
   go_wp2
   go_region
   go_wp2
   go_end0
   exact ⟨⟨⟨_, rfl⟩, _, by rw [uh HR]; exact (uh HM).below (Below.refl _ _).drew⟩, (uh HB).drew⟩
  | succ k =>
   obtain ⟨g', cp', e', _, hgl, hcp', hc, _⟩ := hM.ints.form (by show 0 < k + 1; omega)
   cases e'
   have e0 : wr.cell? ⟨R1, k, none⟩ = some (.pointer (entP E (upd d.I q 0 k))) := hc k (by show k < k + 1; omega)
   by_cases hz : upd d.I q 0 k = 0
   ·rw [hz, show entP E 0 = none from if_neg (by decide)] at e0
    have HR : Hid (shrink (upd d.I q 0) d.m = shrink (upd d.I q 0) k) := uy (hsh.trans (shrink_zero hz))
    have HM := uy (BMut.setInts (u := .slice (some ⟨R1, 0, none⟩) k k1) (I := upd d.I q 0) (m := k) hM (Rw.cut hM.ints (j := k) (by show k ≤ k + 1; omega)) ⟨_, _, rfl⟩ hM.ap)
    have HB := uy hB
    clear hM hB hsh hz hc
    go_wp2
    go_region
    go_wp2
    go_region
    go_wp2
    go_roundw
    case rel => exact ⟨k, by omega, (uh HM).below (Below.refl _ _).drew.drew, ((uh HB).setCell (by exact Nat.le_refl _) _).drew.drew, uh HR⟩
    case measure =>
     rw [show lenB (wr.setCell ⟨bk, 1, none⟩ (.slice (some ⟨R1, 0, none⟩) k k1)).drew.drew bk 1 = k from lenB_is (uh HM).c1, hlen]
     omega
   ·have hp : entP E (upd d.I q 0 k) = some ⟨E (upd d.I q 0 k - 1).toNat, 0, none⟩ := if_pos (by have := uh HI k (by omega); omega)
    rw [hp] at e0
    have HR : Hid (shrink (upd d.I q 0) d.m = k + 1) := uy (hsh.trans (shrink_stop hz))
    have HM := uy hM
    have HB := uy hB
    clear hM hB hsh hz hc hp
    go_wp2
    go_region
    go_wp2
    go_end0
    exact ⟨⟨⟨_, rfl⟩, _, by rw [uh HR]; exact (uh HM).below (Below.refl _ _).drew⟩, (uh HB).drew⟩
end
section
open Go.RowKit Go.Shelf
attribute [local go_sem] run_store_float run_equalIn_float Oper.semAt_some
theorem BMut.grown {w w' : World} {bk : Nat} {r0 r1 : Value} {R2 : Nat} {E S : Nat → Nat} {d : Dc} {row : Option Nat} (h : BMut w bk r0 r1 R2 E S d) (hg : w.grownBy w' row) (hr : ∀ r, row = some r → ∃ o : Obj, w.heap[r]? = some o ∧ o.isCells = false) : BMut w' bk r0 r1 R2 E S d := by
 have ne : ∀ {b : Nat} {c : Array Value} {t : TypeId} {fr : Nat × Nat}, w.heap[b]? = some (.cells c t fr) → w'.heap[b]? = w.heap[b]? := fun {b c t fr} hb => hg.block b (Array.getElem?_eq_some_iff.1 hb).1 (fun e => by
  obtain ⟨o, ho, hc⟩ := hr b e.symm
  rw [hb] at ho
  cases ho
  cases hc)
 have kr : ∀ {t : TypeId} {v : Value} {n : Nat} {f : Nat → Option Addr}, Rw w (bk + 1) t v n f → Rw w' (bk + 1) t v n f := fun {t v n f} hh => kept_ne' hh hg (fun b e e' => by
  obtain ⟨c, hb⟩ := hh.block e'
  obtain ⟨o, ho, hc⟩ := hr b e
  rw [hb] at ho
  cases ho
  cases hc)
 exact ⟨Nat.lt_of_lt_of_le h.lt hg.size, cell_kept h.c0 hg hr, cell_kept h.c1 hg hr, cell_kept h.c2 hg hr, cell_kept h.c3 hg hr, cell_kept h.c4 hg hr, cell_kept h.c5 hg hr, cell_kept h.c6 hg hr, fun q => (World.frozen?_of_block (a := ⟨bk, q, none⟩) (by
  have hc := h.c0
  unfold World.cell? at hc
  cases hb : w.heap[bk]? with
  | none => simp [hb] at hc
  | some o =>
   cases o with
   | cells c t fr => rw [← hb]; exact ne hb
   | _ => simp [hb] at hc)).trans (h.fz q), kr h.log, kr h.ints, h.rf, kr h.slots, h.ap, fun i hi => (h.ent i hi).keep hg.size (ne (h.ent i hi).ob), h.eb, h.inj, fun j hj => (h.sl j hj).keep hg.size (fun c hc => ne hc), h.sg⟩
end
section
open Go.RowKit Go.Shelf
attribute [local go_sem] run_store_float run_equalIn_float Oper.semAt_some
structure KX (M : Nat → Prop) (n : Nat) (A B : World) : Prop where
 bel : Below n A B
 blk : ∀ b, b < A.heap.size → ¬ M b → B.heap[b]? = A.heap[b]?
theorem KX.refl (M : Nat → Prop) (n : Nat) (A : World) : KX M n A A := ⟨Below.refl _ _, fun _ _ _ => rfl⟩
theorem KX.trans {M : Nat → Prop} {n : Nat} {A B C : World} (h : KX M n A B) (k : KX M n B C) : KX M n A C := ⟨h.bel.trans k.bel, fun b hb hm => (k.blk b (Nat.lt_of_lt_of_le hb h.bel.size) hm).trans (h.blk b hb hm)⟩
theorem KX.mono {M M' : Nat → Prop} {n : Nat} {A B : World} (h : KX M n A B) (e : ∀ b, b < A.heap.size → M b → M' b) : KX M' n A B := ⟨h.bel, fun b hb hm => h.blk b hb (fun hM => hm (e b hb hM))⟩
theorem KX.of_below {M : Nat → Prop} {n : Nat} {A B : World} (h : Below A.heap.size A B) (hn : n ≤ A.heap.size) : KX M n A B := ⟨h.mono hn, fun b hb _ => h.block b hb⟩
theorem KX.setCell {M : Nat → Prop} {n : Nat} {A B : World} (h : KX M n A B) {g q : Nat} (hg : n ≤ g) (hM : g < A.heap.size → M g) (u : Value) : KX M n A (B.setCell ⟨g, q, none⟩ u) :=
 ⟨h.bel.setCell (by exact hg) _, fun b hb hm => (Deep.blk_setCell_other _ _ _ _ (by intro e; have e : b = g := e; subst e; exact hm (hM hb))).trans (h.blk b hb hm)⟩
theorem KX.alloc {M : Nat → Prop} {n : Nat} {A B : World} (h : KX M n A B) (hn : n ≤ A.heap.size) (o : Obj) : KX M n A (B.alloc o) :=
 ⟨h.bel.alloc (Nat.le_trans hn h.bel.size) _, fun b hb hm => (Deep.blk_alloc_lt _ _ _ (Nat.lt_of_lt_of_le hb h.bel.size)).trans (h.blk b hb hm)⟩
theorem KX.drew {M : Nat → Prop} {n : Nat} {A B : World} (h : KX M n A B) : KX M n A B.drew := ⟨h.bel.drew, h.blk⟩
theorem KX.grown {M : Nat → Prop} {n : Nat} {A B C : World} {row : Option Nat} (h : KX M n A B) (hg : B.grownBy C row) (hn : n ≤ A.heap.size) (hr : ∀ r, row = some r → A.heap.size ≤ r ∨ (n ≤ r ∧ M r)) : KX M n A C :=
 ⟨h.bel.grown hg (Nat.le_trans hn h.bel.size) (fun k e => by rcases hr k e with h' | h' <;> omega), fun b hb hm => (hg.block b (Nat.lt_of_lt_of_le hb h.bel.size) (fun e => by
  rcases hr b e.symm with h' | h'
  ·omega
  ·exact hm h'.2)).trans (h.blk b hb hm)⟩
def HeldA (n0 bk R2 x : Nat) (k : Vl) (e : Nat) (W : World) : Prop :=
 W.cell? ⟨n0, 0, none⟩ = some (.pointer (some ⟨bk, 2, none⟩)) ∧ W.cell? ⟨bk, 3, none⟩ = some (.slice (some ⟨R2, 0, none⟩) x x) ∧ W.cell? ⟨n0 + 1, 0, none⟩ = some (.int .i64 k.kind) ∧ W.cell? ⟨n0 + 1, 1, none⟩ = some (.int .i64 k.num) ∧ W.cell? ⟨n0 + 1, 2, none⟩ = some (.float .f64 k.flt) ∧ W.cell? ⟨n0 + 1, 3, none⟩ = some (.string k.str) ∧ W.cell? ⟨n0 + 1, 4, none⟩ = some (.int .i64 k.ref) ∧ W.cell? ⟨n0 + 1 + 1, 0, none⟩ = some (.pointer (some ⟨e, 0, none⟩))
theorem HeldA.block {n0 bk R2 x e : Nat} {k : Vl} {W W' : World} (h : HeldA n0 bk R2 x k e W) (hb : ∀ b, b < n0 + 3 → b = n0 ∨ b = n0 + 1 ∨ b = n0 + 1 + 1 ∨ b = bk → W'.heap[b]? = W.heap[b]?) (hl : bk < n0) : HeldA n0 bk R2 x k e W' := by
 obtain ⟨s0, s1, s2, s3, s4, s5, s6, s7⟩ := h
 have k0 := hb n0 (by omega) (by omega)
 have k1 := hb (n0 + 1) (by omega) (by omega)
 have k2 := hb (n0 + 1 + 1) (by omega) (by omega)
 have k3 := hb bk (by omega) (by omega)
 exact ⟨(World.cell?_of_block k0).trans s0, (World.cell?_of_block k3).trans s1, (World.cell?_of_block k1).trans s2, (World.cell?_of_block k1).trans s3, (World.cell?_of_block k1).trans s4, (World.cell?_of_block k1).trans s5, (World.cell?_of_block k1).trans s6, (World.cell?_of_block k2).trans s7⟩
set_option maxRecDepth 100000 in
set_option maxHeartbeats 4000000 in
theorem indexAdd_any (T : World → Prop) (hTl : Lasts T) (bk : Nat) (r0 r1 : Value) (R2 : Nat) (E S : Nat → Nat) (d : Dc) (k : Vl) (p h : Nat) (hh : HsI T k h) (w : World) (hT : T w) (hM : BMut w bk r0 r1 R2 E S d) (hS : Small d) (hX : ∀ j, j < d.x → d.X j = 0 ∨ d.X j = -1 ∨ 0 < d.X j) (hk : (d.L p).key = k) (hu : useN d.X d.x < d.x) (hu0 : 0 ≤ d.used) (hu1 : d.used ≤ 4194304) :
  Calls Tryz.prog 145 #[.pointer (some ⟨bk, 2, none⟩), V k.kind k.num k.flt k.str k.ref, .pointer (some ⟨E p, 0, none⟩)] w fun e w' => ((∃ u, e = .returned u) ∧ ∃ a S', freeSlot d.x d.X (h % d.x) = some a ∧ BMut w' bk r0 r1 R2 E S' { d with X := upd d.X a ((p : Int) + 1), used := if d.X a = 0 then d.used + 1 else d.used }) ∧ KX (fun b => b = bk ∨ b = R2) bk w w' := by
 have hx := hS.x
 refine (callsIn_wide (n := 10)).1 ?_
 refine callsIn_of_wp_marks Tryz.func145 rfl trivial ?_ rfl
 simp only [Tryz.ntmps145, List.size_toArray, List.length_cons, List.length_nil, Nat.reduceAdd, Nat.reduceSub, Array.replicate_succ, Array.replicate_zero, List.push_toArray, List.append_toArray, List.nil_append, List.cons_append]
 gi_wp2_with (refine ⟨trivial, ?_⟩; gi_at_call 132; refine (callsIn_wide.2 (from_any (some ⟨bk, 2, none⟩) k _)).mono ?_; rintro e w' ⟨rfl, rfl⟩)
 obtain ⟨u, hu'⟩ : ∃ u, u = ((((w.alloc (.cells #[.pointer (some ⟨bk, 2, none⟩)] 149)).alloc (.cells #[.int .i64 k.kind, .int .i64 k.num, .float .f64 k.flt, .string k.str, .int .i64 k.ref] 30)).alloc (.cells #[.pointer (some ⟨E p, 0, none⟩)] 89)).alloc (.cells #[.pointer (some ⟨bk, 2, none⟩)] 149)).alloc (.cells #[.int .i64 k.kind, .int .i64 k.num, .float .f64 k.flt, .string k.str, .int .i64 k.ref] 30) := ⟨_, rfl⟩
 rw [← hu']
 have zu : u.heap.size = w.heap.size + 5 := by rw [hu']; simp
 have bu : Below w.heap.size w u := by rw [hu']; exact (((((Below.refl _ _).alloc (Nat.le_refl _) _).alloc (by simp) _).alloc (by simp; omega) _).alloc (by simp; omega) _).alloc (by simp; omega) _
 have n0 : u.cell? ⟨w.heap.size, 0, none⟩ = some (.pointer (some ⟨bk, 2, none⟩)) := by rw [hu']; simp [go_sem]
 have i0 : u.cell? ⟨w.heap.size + 1, 0, none⟩ = some (.int .i64 k.kind) := by rw [hu']; simp [go_sem]
 have i1 : u.cell? ⟨w.heap.size + 1, 1, none⟩ = some (.int .i64 k.num) := by rw [hu']; simp [go_sem]
 have i2 : u.cell? ⟨w.heap.size + 1, 2, none⟩ = some (.float .f64 k.flt) := by rw [hu']; simp [go_sem]
 have i3 : u.cell? ⟨w.heap.size + 1, 3, none⟩ = some (.string k.str) := by rw [hu']; simp [go_sem]
 have i4 : u.cell? ⟨w.heap.size + 1, 4, none⟩ = some (.int .i64 k.ref) := by rw [hu']; simp [go_sem]
 have r0' : u.cell? ⟨w.heap.size + 1 + 1, 0, none⟩ = some (.pointer (some ⟨E p, 0, none⟩)) := by rw [hu']; simp [go_sem]
 have m0 : u.cell? ⟨w.heap.size + 1 + 1 + 1, 0, none⟩ = some (.pointer (some ⟨bk, 2, none⟩)) := by rw [hu']; simp [go_sem]
 have j0 : u.cell? ⟨w.heap.size + 1 + 1 + 1 + 1, 0, none⟩ = some (.int .i64 k.kind) := by rw [hu']; simp [go_sem]
 have j1 : u.cell? ⟨w.heap.size + 1 + 1 + 1 + 1, 1, none⟩ = some (.int .i64 k.num) := by rw [hu']; simp [go_sem]
 have j2 : u.cell? ⟨w.heap.size + 1 + 1 + 1 + 1, 2, none⟩ = some (.float .f64 k.flt) := by rw [hu']; simp [go_sem]
 have j3 : u.cell? ⟨w.heap.size + 1 + 1 + 1 + 1, 3, none⟩ = some (.string k.str) := by rw [hu']; simp [go_sem]
 have j4 : u.cell? ⟨w.heap.size + 1 + 1 + 1 + 1, 4, none⟩ = some (.int .i64 k.ref) := by rw [hu']; simp [go_sem]
 have hMu := hM.below bu
 have hTu := hTl _ _ hT bu
 have hbkw := hM.lt
 have hR2w := hM.r2_lt
 have hbs : ∀ (W : World), Below w.heap.size w W → bk < W.heap.size := fun W h => Nat.lt_of_lt_of_le hbkw h.size
 clear hu'
 refine wpIn_rangeFunc_ownF rfl (by decide) (gf := 146) (lb := #[.pointer (some ⟨w.heap.size + 1 + 1 + 1, 0, none⟩), .pointer (some ⟨w.heap.size + 1 + 1 + 1 + 1, 0, none⟩)]) rfl trivial (enters_of Tryz.func146 (by kernel_rfl) rfl)
  (from_stops 9 (by decide) T hTl bk R2 (w.heap.size + 1 + 1 + 1) (w.heap.size + 1 + 1 + 1 + 1) d k h w.heap.size hh u hTu hx m0 hMu.c2 hMu.c3 j0 j1 j2 j3 j4) belowK_t (belowK_b (by omega)) (Below.refl _ _) (fun _ => rfl)
  (fun pre W => ((∀ y ∈ pre, 0 < d.X y.1) ∧ W.cell? ⟨w.heap.size, 0, none⟩ = some (.pointer (some ⟨bk, 2, none⟩)) ∧ W.cell? ⟨w.heap.size + 1, 0, none⟩ = some (.int .i64 k.kind) ∧ W.cell? ⟨w.heap.size + 1, 1, none⟩ = some (.int .i64 k.num) ∧ W.cell? ⟨w.heap.size + 1, 2, none⟩ = some (.float .f64 k.flt) ∧ W.cell? ⟨w.heap.size + 1, 3, none⟩ = some (.string k.str) ∧ W.cell? ⟨w.heap.size + 1, 4, none⟩ = some (.int .i64 k.ref) ∧ W.cell? ⟨w.heap.size + 1 + 1, 0, none⟩ = some (.pointer (some ⟨E p, 0, none⟩))) ∧ Below w.heap.size w W)
  (fun c pre W => (c = .ret ∧ (∃ pre' a, pre = pre' ++ [a] ∧ (∀ y ∈ pre', 0 < d.X y.1) ∧ d.X a.1 ≤ 0 ∧ ∃ S', BMut W bk r0 r1 R2 E S' { d with X := upd d.X a.1 ((p : Int) + 1), used := if d.X a.1 = 0 then d.used + 1 else d.used })) ∧ KX (fun b => b = bk ∨ b = R2) bk w W)
  (OwnFrom.and (Own.from (fun s A B row hs hg hr => ⟨hs.1, cell_kept hs.2.1 hg hr, cell_kept hs.2.2.1 hg hr, cell_kept hs.2.2.2.1 hg hr, cell_kept hs.2.2.2.2.1 hg hr, cell_kept hs.2.2.2.2.2.1 hg hr, cell_kept hs.2.2.2.2.2.2.1 hg hr, cell_kept hs.2.2.2.2.2.2.2 hg hr⟩) _) (ownFrom_below (Nat.le_refl _) (by omega)))
  (fun c => OwnFrom.and (Own.from (fun s A B row hs hg hr => ⟨hs.1, by obtain ⟨pre', a, h1, h2, h3, S', h4⟩ := hs.2; exact ⟨pre', a, h1, h2, h3, S', h4.grown hg hr⟩⟩) _) (fun s W W' row hs hg hr => hs.grown hg (by omega) (fun k e => .inl (by have := (hr k e).1; omega))))
  ⟨⟨by simp, n0, i0, i1, i2, i3, i4, r0'⟩, bu⟩
  ?a1 ?assign ?body ?done ?stop
 case assign =>
  intro l x W K hK
  gi_wp2
  exact hK
 case body =>
  rintro l pre ⟨a, ha⟩ W ⟨⟨hp, g0, e0, e1, e2, e3, e4, s0⟩, hBW⟩ _
  have hMW := hM.below hBW
  have c3 := hMW.c3
  have c4 := hMW.c4
  have f4 := hMW.fz 4
  obtain ⟨g', cp', e', _, lR, _, hpc, hpf⟩ := hMW.slots.form (by omega)
  cases e'
  have p0 := hpc a ha
  have q0 := hpf a
  have hsl := hMW.sl a ha
  have lW : bk < W.heap.size := hMW.lt
  have nR : R2 ≠ bk := by have := hMW.r2_lt.1; omega
  have nR' : bk ≠ R2 := fun e => nR e.symm
  have z0 := World.block_lt_of_cell? _ _ g0
  have z1 := World.block_lt_of_cell? _ _ e0
  have z2 := World.block_lt_of_cell? _ _ s0
  dsimp only at z0 z1 z2
  have HP := uy hp
  have HBW := uy hBW
  have HMW := uy hMW
  have HK := uy hk
  have bR2 := hMW.r2_lt.1
  clear hp hBW n0 i0 i1 i2 i3 i4 r0' m0 j0 j1 j2 j3 j4 hMu hTu bu zu hM hT hh hTl hpc hpf hMW
  have hxa := hX a ha
  clear hX
  rcases hxa with hs | hs | hs
  ·rw [show sltP S a (d.X a) = none from if_pos hs] at p0
   have hN0 := (((uh HMW).setUsed (d.used + 1)).putX (x := (p : Int) + 1) ha (by omega) (A := sltA k (E p)) ⟨fun _ => by show _ = sltA (d.L ((p : Int) + 1 - 1).toNat).key _; rw [show ((p : Int) + 1 - 1).toNat = p by omega, uh HK], fun h => by omega⟩)
   rw [show (W.setCell ⟨bk, 4, none⟩ (.int .i64 (d.used + 1))).heap.size = W.heap.size by simp] at hN0
   have HN := uy hN0
   clear hN0
   have HX : Hid (d.X a = 0) := uy hs
   clear hsl hs
   gi_wp2
   refine wpInR_held (HeldA w.heap.size bk R2 d.x k (E p)) (by kernel_rfl) (by kernel_rfl) ?_
   change wpAnyH _ _ _ _ _ _ _ _ (World.drew _)
   have hz : ∀ b q, bk ≠ b → (W.setCell ⟨bk, 4, none⟩ (.int .i64 (d.used + 1))).cell? ⟨b, q, none⟩ = W.cell? ⟨b, q, none⟩ := fun b q h => cell_set_block h
   have hS0 : HeldA w.heap.size bk R2 d.x k (E p) (W.setCell ⟨bk, 4, none⟩ (.int .i64 (d.used + 1))).drew := ⟨(hz _ _ (by omega)).trans g0, (cell_set_other (by decide)).trans c3, (hz _ _ (by omega)).trans e0, (hz _ _ (by omega)).trans e1, (hz _ _ (by omega)).trans e2, (hz _ _ (by omega)).trans e3, (hz _ _ (by omega)).trans e4, (hz _ _ (by omega)).trans s0⟩
   clear hz
   refine tk 0 (v := ?_) rfl (by kernel_rfl) (by rfl) ?_ (by assumption) ?_
   rotate_left
   ·intro w' ⟨s0, s1, s2, s3, s4, s5, s6, s7⟩; go_simp; try with_reducible rfl
   simp only [Act.put, sA, sB, sC]
   refine tk 1 (v := ?_) rfl (by kernel_rfl) (by rfl) ?_ (by assumption) ?_
   rotate_left
   ·intro w' ⟨s0, s1, s2, s3, s4, s5, s6, s7⟩; go_simp; try with_reducible rfl
   simp only [Act.put, sA, sB, sC]
   refine tk 2 (v := ?_) rfl (by kernel_rfl) (by rfl) ?_ (by assumption) ?_
   rotate_left
   ·intro w' ⟨s0, s1, s2, s3, s4, s5, s6, s7⟩; go_simp; try with_reducible rfl
   simp only [Act.put, sA, sB, sC]
   refine tk 3 (v := ?_) rfl (by kernel_rfl) (by rfl) ?_ (by assumption) ?_
   rotate_left
   ·intro w' ⟨s0, s1, s2, s3, s4, s5, s6, s7⟩; go_simp; try with_reducible rfl
   simp only [Act.put, sA, sB, sC]
   refine tk 4 (v := ?_) rfl (by kernel_rfl) (by rfl) ?_ (by assumption) ?_
   rotate_left
   ·intro w' ⟨s0, s1, s2, s3, s4, s5, s6, s7⟩; go_simp; try with_reducible rfl
   simp only [Act.put, sA, sB, sC]
   refine tk 5 (v := ?_) rfl (by kernel_rfl) (by rfl) ?_ (by assumption) ?_
   rotate_left
   ·intro w' ⟨s0, s1, s2, s3, s4, s5, s6, s7⟩; go_simp; try with_reducible rfl
   simp only [Act.put, sA, sB, sC]
   refine tk 6 (v := ?_) rfl (by kernel_rfl) (by rfl) ?_ (by assumption) ?_
   rotate_left
   ·intro w' ⟨s0, s1, s2, s3, s4, s5, s6, s7⟩; go_simp; try with_reducible rfl
   simp only [Act.put, sA, sB, sC]
   refine tk 7 (v := ?_) rfl (by kernel_rfl) (by rfl) ?_ (by assumption) ?_
   rotate_left
   ·intro w' ⟨s0, s1, s2, s3, s4, s5, s6, s7⟩; go_simp; try with_reducible rfl
   simp only [Act.put, sA, sB, sC]
   refine wpAnyH_ready (rs := [8]) (by kernel_rfl) (by simp) ?_
   refine AllReadyH.cons rfl (fun K hK => ?_) AllReadyH.nil
   go_simp
   refine hK.out _ _ ?_ (fun hS1 => ?_)
   ·exact hS0.block (fun b hb _ => Deep.blk_alloc_lt _ _ _ (by show b < (W.setCell _ _).heap.size; simp; omega)) hbkw
   clear hK K
   refine tk 9 (v := ?_) rfl (by kernel_rfl) (by rfl) ?_ (by assumption) ?_
   rotate_left
   ·intro w' ⟨s0, s1, s2, s3, s4, s5, s6, s7⟩; go_simp; try with_reducible rfl
   simp only [Act.put, sA, sB, sC]
   refine wpAnyH_ready (rs := [10]) (by kernel_rfl) (by simp) ?_
   refine AllReadyH.cons rfl (fun K hK => ?_) AllReadyH.nil
   go_simp
   refine hK.out _ _ ?_ (fun hS2 => ?_)
   ·exact hS0.block (fun b hb h => (Deep.blk_alloc_lt _ _ _ (by simp; omega)).trans (Deep.blk_setCell_other _ _ _ _ (by show b ≠ R2; omega))) hbkw
   clear hK K
   refine wpAnyH_done (by kernel_rfl) ?_ _
   refine QN.normal ?_
   gi_wp2
   exact ⟨(((KeepsOthers.setCell _ _ _).trans (KeepsOthers.setCell _ _ _)).trans (KeepsOthers.alloc _ _)).trans (KeepsOthers.drew _), ⟨rfl, pre, ⟨a, ha⟩, rfl, uh HP, by have := uh HX; show d.X a ≤ 0; omega, _, by rw [if_pos (uh HX)]; exact (uh HN).below (Below.refl _ _).drew⟩, (((((KX.of_below (uh HBW) (by omega)).setCell (Nat.le_refl _) (fun _ => .inl rfl) _).setCell (by omega) (fun _ => .inr rfl) _).alloc (by omega) _).drew)⟩
  ·rw [show sltP S a (d.X a) = some ⟨S a, 0, none⟩ from if_neg (by omega)] at p0
   obtain ⟨hsz, hgn⟩ := hsl.2 (by omega)
   have HN := uy ((uh HMW).putX (x := (p : Int) + 1) ha (by omega) (A := sltA k (E p)) ⟨fun _ => by show _ = sltA (d.L ((p : Int) + 1 - 1).toNat).key _; rw [show ((p : Int) + 1 - 1).toNat = p by omega, uh HK], fun h => by omega⟩)
   have HX : Hid (d.X a ≠ 0 ∧ d.X a ≤ 0) := uy (by omega)
   clear hsl hs
   gi_wp2
   refine wpInR_held (HeldA w.heap.size bk R2 d.x k (E p)) (by kernel_rfl) (by kernel_rfl) ?_
   change wpAnyH _ _ _ _ _ _ _ _ (World.drew _)
   have hS0 : HeldA w.heap.size bk R2 d.x k (E p) W.drew := ⟨g0, c3, e0, e1, e2, e3, e4, s0⟩
   refine tk 0 (v := ?_) rfl (by kernel_rfl) (by rfl) ?_ (by assumption) ?_
   rotate_left
   ·intro w' ⟨s0, s1, s2, s3, s4, s5, s6, s7⟩; go_simp; try with_reducible rfl
   simp only [Act.put, sA, sB, sC]
   refine tk 1 (v := ?_) rfl (by kernel_rfl) (by rfl) ?_ (by assumption) ?_
   rotate_left
   ·intro w' ⟨s0, s1, s2, s3, s4, s5, s6, s7⟩; go_simp; try with_reducible rfl
   simp only [Act.put, sA, sB, sC]
   refine tk 2 (v := ?_) rfl (by kernel_rfl) (by rfl) ?_ (by assumption) ?_
   rotate_left
   ·intro w' ⟨s0, s1, s2, s3, s4, s5, s6, s7⟩; go_simp; try with_reducible rfl
   simp only [Act.put, sA, sB, sC]
   refine tk 3 (v := ?_) rfl (by kernel_rfl) (by rfl) ?_ (by assumption) ?_
   rotate_left
   ·intro w' ⟨s0, s1, s2, s3, s4, s5, s6, s7⟩; go_simp; try with_reducible rfl
   simp only [Act.put, sA, sB, sC]
   refine tk 4 (v := ?_) rfl (by kernel_rfl) (by rfl) ?_ (by assumption) ?_
   rotate_left
   ·intro w' ⟨s0, s1, s2, s3, s4, s5, s6, s7⟩; go_simp; try with_reducible rfl
   simp only [Act.put, sA, sB, sC]
   refine tk 5 (v := ?_) rfl (by kernel_rfl) (by rfl) ?_ (by assumption) ?_
   rotate_left
   ·intro w' ⟨s0, s1, s2, s3, s4, s5, s6, s7⟩; go_simp; try with_reducible rfl
   simp only [Act.put, sA, sB, sC]
   refine tk 6 (v := ?_) rfl (by kernel_rfl) (by rfl) ?_ (by assumption) ?_
   rotate_left
   ·intro w' ⟨s0, s1, s2, s3, s4, s5, s6, s7⟩; go_simp; try with_reducible rfl
   simp only [Act.put, sA, sB, sC]
   refine tk 7 (v := ?_) rfl (by kernel_rfl) (by rfl) ?_ (by assumption) ?_
   rotate_left
   ·intro w' ⟨s0, s1, s2, s3, s4, s5, s6, s7⟩; go_simp; try with_reducible rfl
   simp only [Act.put, sA, sB, sC]
   refine wpAnyH_ready (rs := [8]) (by kernel_rfl) (by simp) ?_
   refine AllReadyH.cons rfl (fun K hK => ?_) AllReadyH.nil
   go_simp
   refine hK.out _ _ ?_ (fun hS1 => ?_)
   ·exact hS0.block (fun b hb _ => Deep.blk_alloc_lt _ _ _ (by show b < W.heap.size; omega)) hbkw
   clear hK K
   refine tk 9 (v := ?_) rfl (by kernel_rfl) (by rfl) ?_ (by assumption) ?_
   rotate_left
   ·intro w' ⟨s0, s1, s2, s3, s4, s5, s6, s7⟩; go_simp; try with_reducible rfl
   simp only [Act.put, sA, sB, sC]
   refine wpAnyH_ready (rs := [10]) (by kernel_rfl) (by simp) ?_
   refine AllReadyH.cons rfl (fun K hK => ?_) AllReadyH.nil
   go_simp
   refine hK.out _ _ ?_ (fun hS2 => ?_)
   ·exact hS0.block (fun b hb h => (Deep.blk_alloc_lt _ _ _ (by simp; omega)).trans (Deep.blk_setCell_other _ _ _ _ (by show b ≠ R2; omega))) hbkw
   clear hK K
   refine wpAnyH_done (by kernel_rfl) ?_ _
   refine QN.normal ?_
   gi_wp2
   exact ⟨((KeepsOthers.setCell _ _ _).trans (KeepsOthers.alloc _ _)).trans (KeepsOthers.drew _), ⟨rfl, pre, ⟨a, ha⟩, rfl, uh HP, by have := uh HX; show d.X a ≤ 0; omega, _, by rw [if_neg (uh HX).1]; exact (uh HN).below (Below.refl _ _).drew⟩, ((((KX.of_below (uh HBW) (by omega)).setCell (by omega) (fun _ => .inr rfl) _).alloc (by omega) _).drew)⟩
  ·rw [show sltP S a (d.X a) = some ⟨S a, 0, none⟩ from if_neg (by omega)] at p0
   obtain ⟨hsz, f0, f1, f2, f3, f4', f5, f6⟩ := hsl.1 hs
   have HX := uy hs
   clear hsl hs
   gi_wp2
   exact ⟨KeepsOthers.refl _, Below.refl _ _, ⟨fun y hy => (List.mem_append.1 hy).elim (uh HP y) (fun e => by simp at e; subst e; exact uh HX), g0, e0, e1, e2, e3, e4, s0⟩, uh HBW⟩
 case done =>
  rintro D ys W hD hsq ⟨⟨hp, _⟩, hBW⟩ hK
  exfalso
  obtain ⟨t, ht, hf, hle, hbef⟩ := freeSlot_some (x := d.x) (a := h % d.x) (X := d.X) (Nat.mod_lt _ (by omega)) hu
  have hm : (h % d.x + t) % d.x ∈ ys.map (·.1) := by
   rw [show ys.map (·.1) = seqL d.x (h % d.x) d.x from hsq]
   unfold seqL
   exact List.mem_map.2 ⟨t, List.mem_range.2 ht, rfl⟩
  obtain ⟨y, hy, e⟩ := List.mem_map.1 hm
  have := hp y hy
  rw [e] at this
  omega
 case stop =>
  rintro D c pre W hD hpre ⟨⟨rfl, pre', a, rfl, h1, h2, S', hN⟩, hBW⟩ hK
  have HF : Hid (freeSlot d.x d.X (h % d.x) = some a.1) := uy (by
   have hp : (pre' ++ [a]).map (·.1) <+: seqL d.x (h % d.x) d.x := hpre
   have hlen := hp.length_le
   rw [List.length_map, List.length_append, seqL_length] at hlen
   have hlen : pre'.length + 1 ≤ d.x := hlen
   have hget : ∀ j, j < pre'.length + 1 → ((pre' ++ [a]).map (·.1))[j]? = some ((h % d.x + j) % d.x) := fun j hj => by
    obtain ⟨r, hr⟩ := hp
    have e : (seqL d.x (h % d.x) d.x)[j]? = ((pre' ++ [a]).map (·.1))[j]? := by rw [← hr, List.getElem?_append_left (by simp; omega)]
    rw [← e]
    unfold seqL
    rw [List.getElem?_map, List.getElem?_range (show j < d.x by omega)]
    rfl
   have ha := hget pre'.length (by omega)
   rw [List.getElem?_map, List.getElem?_append_right (Nat.le_refl _)] at ha
   have ha : a.1 = (h % d.x + pre'.length) % d.x := by simpa using ha
   rw [ha]
   refine freeSlot_at (by omega) (fun j hj => ?_) (by rw [← ha]; exact h2)
   have hb := hget j (by omega)
   rw [List.getElem?_map, List.getElem?_append_left hj] at hb
   obtain ⟨y, hy, e⟩ := Option.map_eq_some_iff.1 hb
   rw [← e]
   exact h1 y (List.mem_of_getElem? hy))
  clear hpre h1 h2 hh hM hMu
  gi_wp2
  refine ⟨by simp, .inl ⟨_, _, rfl, run_takeDeferred hK, ?_⟩⟩
  have hg := grownBy_putObj' W D (.deferred none)
  refine ⟨_, results_none rfl _ _ _, ⟨⟨_, rfl⟩, a.1, S', uh HF, hN.grown hg (fun r e => by cases e; exact ⟨_, hK, rfl⟩)⟩, hBW.grown hg (by omega) (fun k e => by cases e; exact .inl (by omega))⟩
end
section
open Go.RowKit Go.Shelf
attribute [local go_sem] run_store_float run_equalIn_float Oper.semAt_some
theorem own_at {w w' : World} {B e s n : Nat} {v : Value} {xs : List Value} (h : w.ownsRow B e s v n xs) (hb : ∀ q, v.ownBlock = some q → w'.heap[q]? = w.heap[q]?) : w'.ownsRow B e s v n xs := by
 obtain ⟨hl, h | ⟨g, cap, cur, h1, h2, h3, h4⟩⟩ := h
 ·exact ⟨hl, .inl h⟩
 ·exact ⟨hl, .inr ⟨g, cap, cur, h1, h2, (hb g (by rw [h1]; rfl)).trans h3, h4⟩⟩
noncomputable def hlP (d : Dc) (pre : List (Liv d)) : List Nat := (pre.map (·.1)).filter (fun i => !tells (smallK d.m (d.L i).key))
theorem hlP_no {d : Dc} {pre : List (Liv d)} {x : Liv d} (h : smallK d.m (d.L x.1).key) : hlP d (pre ++ [x]) = hlP d pre := by
 unfold hlP
 rw [List.map_append, List.filter_append]
 simp [tells_yes h]
theorem hlP_yes {d : Dc} {pre : List (Liv d)} {x : Liv d} (h : ¬ smallK d.m (d.L x.1).key) : hlP d (pre ++ [x]) = hlP d pre ++ [x.1] := by
 unfold hlP
 rw [List.map_append, List.filter_append]
 simp [tells_no h]
theorem hlP_all {d : Dc} {pre : List (Liv d)} (h : pre.map (·.1) = livL d d.n) : hlP d pre = hldL d d.n := by
 unfold hlP hldL
 rw [h]
theorem hlP_le {d : Dc} (pre : List (Liv d)) : (hlP d pre).length ≤ pre.length := by
 have := List.length_filter_le (fun i => !tells (smallK d.m (d.L i).key)) (pre.map (·.1))
 rwa [List.length_map] at this
def eP (E : Nat → Nat) (l : List Nat) (j : Nat) : Option Addr := some ⟨E (l.getD j 0), 0, none⟩
theorem eP_snoc (E : Nat → Nat) (l : List Nat) (i : Nat) : ptL (eP E l) l.length ++ [.pointer (some ⟨E i, 0, none⟩)] = ptL (eP E (l ++ [i])) (l.length + 1) := by
 rw [ptL_snoc]
 refine ptL_congr (fun j hj => ?_)
 unfold eP
 by_cases e : j = l.length
 ·subst e
  rw [upd_same]
  simp [List.getD]
 ·rw [upd_other _ _ e]
  rw [List.getD_eq_getElem?_getD, List.getD_eq_getElem?_getD, List.getElem?_append_left (by omega)]
def HdI (w u : World) (p n0 : Nat) (E : Nat → Nat) (d : Dc) (pre : List (Liv d)) (W : World) : Prop :=
 ∃ v, W.rowIs p 110 1 (fun _ => v) ∧ Rw W n0 tEnt v (hlP d pre).length (eP E (hlP d pre)) ∧ KpB p n0 u W ∧ Below w.heap.size w W
theorem HdI.own (w u : World) (p n0 D : Nat) (E : Nat → Nat) (d : Dc) (hn : n0 ≤ D) (hu : n0 ≤ u.heap.size) (hw : w.heap.size ≤ D) : OwnFrom D (HdI w u p n0 E d) := by
 rintro pre A B row ⟨v, h1, h2, h3, h4⟩ hg hr
 refine ⟨v, ?_, own_keptO h2 hg hr, ⟨Nat.le_trans h3.size hg.size, fun b hb hp => ?_⟩, h4.grown hg h4.size (fun k e => Nat.le_trans hw (hr k e).1)⟩
 ·obtain ⟨c, hb, hc⟩ := h1
  exact World.rowIs.of_block ⟨c, hb, hc⟩ (kept_cells hb hg hr)
 ·have hl : b < A.heap.size := Nat.lt_of_lt_of_le hb (Nat.le_trans hu h3.size)
  exact (hg.block b hl (fun e => by have := (hr b e.symm).1; omega)).trans (h3.block b hb hp)
theorem HdI.below {w u W W2 : World} {p n0 : Nat} {E : Nat → Nat} {d : Dc} {pre pre' : List (Liv d)} (h : HdI w u p n0 E d pre W) (h2 : Below W.heap.size W W2) (e : hlP d pre' = hlP d pre) (hpn : p < n0) (hnu : n0 ≤ u.heap.size) : KeepsOthers W W2 ∧ KpB p n0 W W2 ∧ HdI w u p n0 E d pre' W2 := by
 obtain ⟨v, hp, hown, hkp, hbw⟩ := h
 have hk2 : KpB p n0 W W2 := ⟨h2.size, fun b hb _ => h2.block b (Nat.lt_of_lt_of_le hb (Nat.le_trans hnu hkp.size))⟩
 refine ⟨⟨h2.size, fun k o hk _ => (h2.block k (Array.getElem?_eq_some_iff.1 hk).1).trans hk⟩, hk2, v, hp.of_block (h2.block p hp.lt), ?_, hkp.trans hk2, hbw.trans (h2.mono hbw.size)⟩
 rw [e]
 exact own_block hown h2.size (fun q _ hq => h2.block q hq)
theorem HdI.add {w u W W2 w3 : World} {p n0 : Nat} {E : Nat → Nat} {d : Dc} {pre : List (Liv d)} {x : Liv d} {v : Value} {o : Obj} {g3 cp3 : Nat} (hp : W.rowIs p 110 1 (fun _ => v)) (hown : Rw W n0 tEnt v (hlP d pre).length (eP E (hlP d pre))) (hkp : KpB p n0 u W) (hbw : Below w.heap.size w W) (h2 : Below W.heap.size W W2)
  (h1 : w3.ownsRow n0 tEnt 1 (.slice (some ⟨g3, 0, none⟩) ((hlP d pre).length + 1) cp3) ((hlP d pre).length + 1) (ptL (eP E (hlP d pre)) (hlP d pre).length ++ [.pointer (some ⟨E x.1, 0, none⟩)])) (hg : (W2.alloc o).grownBy w3 v.ownBlock) (hpn : p < n0) (hnu : n0 ≤ u.heap.size) (hwp : w.heap.size ≤ p) (hs : ¬ smallK d.m (d.L x.1).key) :
  (w3.cell? ⟨p, 0, none⟩ = some v ∧ w3.frozen? ⟨p, 0, none⟩ = false) ∧ KeepsOthers W (w3.setCell ⟨p, 0, none⟩ (.slice (some ⟨g3, 0, none⟩) ((hlP d pre).length + 1) cp3)) ∧ KpB p n0 W (w3.setCell ⟨p, 0, none⟩ (.slice (some ⟨g3, 0, none⟩) ((hlP d pre).length + 1) cp3)) ∧ HdI w u p n0 E d (pre ++ [x]) (w3.setCell ⟨p, 0, none⟩ (.slice (some ⟨g3, 0, none⟩) ((hlP d pre).length + 1) cp3)) := by
 have zW := hkp.size
 have z2 := h2.size
 have z3 : W.heap.size ≤ w3.heap.size := by have := hg.size; simp at this; omega
 have hB : ∀ b, b < W.heap.size → v.ownBlock ≠ some b → w3.heap[b]? = W.heap[b]? := fun b hb he => (hg.block b (by simp; omega) (fun e => he e.symm)).trans ((Deep.blk_alloc_lt _ _ _ (by omega)).trans (h2.block b hb))
 have hrow : ∀ b, b < n0 → v.ownBlock ≠ some b := fun b hb e => by have := (hown.lt b e).1; omega
 have hp1 : w3.rowIs p 110 1 (fun _ => v) := hp.of_block (hB p hp.lt (hrow p hpn))
 have hg3 := (World.ownsRow.lt h1 g3 rfl).1
 have os : ∀ b, b ≠ p → (w3.setCell ⟨p, 0, none⟩ (.slice (some ⟨g3, 0, none⟩) ((hlP d pre).length + 1) cp3)).heap[b]? = w3.heap[b]? := fun b hb => Deep.blk_setCell_other _ _ _ _ (by exact hb)
 have hk : KpB p n0 W (w3.setCell ⟨p, 0, none⟩ (.slice (some ⟨g3, 0, none⟩) ((hlP d pre).length + 1) cp3)) := ⟨by simpa using z3, fun b h1 h2' => (os b h2').trans (hB b (by omega) (hrow b h1))⟩
 refine ⟨⟨hp1.cell (i := 0) (by omega), hp1.frozen 0⟩, ?_, hk, .slice (some ⟨g3, 0, none⟩) ((hlP d pre).length + 1) cp3, (hp1.set 0 _).congr (fun q hq => by simp [show q = 0 by omega]), ?_, hkp.trans hk, ?_⟩
 ·have hko : KeepsOthers W w3 := ⟨z3, fun k o' hk' hc => (hB k (Array.getElem?_eq_some_iff.1 hk').1 (fun e => by
   obtain ⟨c, hb⟩ := Rw.block hown e
   rw [hb] at hk'
   cases hk'
   cases hc)).trans hk'⟩
  exact hko.trans (KeepsOthers.setCell _ _ _)
 ·rw [hlP_yes hs]
  have hl : (hlP d pre ++ [x.1]).length = (hlP d pre).length + 1 := by simp
  rw [hl]
  refine own_at ?_ (fun q e => os q (by
   have e' : g3 = q := by simpa [Value.ownBlock] using e
   omega))
  rw [eP_snoc] at h1
  exact h1
 ·exact (((hbw.trans (h2.mono hbw.size)).alloc (by have := hbw.size; omega) _).grown hg (by have := hbw.size; simp; omega) (fun k e => by have := (hown.lt k e).1; omega)).setCell (by show w.heap.size ≤ p; omega) _
def sizeX (n : Nat) : Nat := if n = 0 then 0 else sizeFor n
theorem sizeX_le {n : Nat} (h : n ≤ 500) : sizeX n ≤ 4000 := by
 unfold sizeX
 split
 ·omega
 ·exact (sizeFor_says h).2.2.1
theorem sizeX_room {n : Nat} (h : n ≤ 500) : 4 * n ≤ sizeX n := by
 unfold sizeX
 split
 ·omega
 ·exact (sizeFor_says h).1
def HeldR (n0 bk p : Nat) (v : Value) (W : World) : Prop := W.cell? ⟨n0, 0, none⟩ = some (.pointer (some ⟨bk, 0, none⟩)) ∧ W.cell? ⟨p, 0, none⟩ = some v
def HeldK (n0 bk e : Nat) (k : Vl) (W : World) : Prop := W.cell? ⟨n0, 0, none⟩ = some (.pointer (some ⟨bk, 0, none⟩)) ∧ W.cell? ⟨e, 0, none⟩ = some (.int .i64 k.kind) ∧ W.cell? ⟨e, 1, none⟩ = some (.int .i64 k.num) ∧ W.cell? ⟨e, 2, none⟩ = some (.float .f64 k.flt) ∧ W.cell? ⟨e, 3, none⟩ = some (.string k.str) ∧ W.cell? ⟨e, 4, none⟩ = some (.int .i64 k.ref)
set_option maxRecDepth 100000 in
set_option maxHeartbeats 2000000 in
theorem indexEmpty_kx (bk : Nat) (r0 r1 : Value) (R2 : Nat) (E S : Nat → Nat) (d : Dc) (x : Nat) (w : World) (hM : BMut w bk r0 r1 R2 E S d) (hx : x ≤ 4194304) :
  Calls Tryz.prog 154 #[.pointer (some ⟨bk, 2, none⟩), .int .i64 (x : Int)] w fun e w' => ((∃ u, e = .returned u) ∧ BMut w' bk r0 r1 w.heap.size E S { d with x := x, X := fun _ => 0, used := 0 }) ∧ KX (fun b => b = bk) bk w w' := by
 have hlt := hM.lt
 have c3 := hM.c3
 have c4 := hM.c4
 have f3 := hM.fz 3
 have f4 := hM.fz 4
 have mk := make_ptrs Tryz.underlying112 infoSlot x hx
 have hP : Ptrs (w.alloc (.cells (madeCells (Value.pointer none).cells x) tSlt)) w.heap.size x tSlt (fun _ => none) := Ptrs.fresh w x tSlt
 have hN := ((hM.below ((Below.refl _ _).alloc (Nat.le_refl _) (.cells (madeCells (Value.pointer none).cells x) tSlt))).setSlots (Q2 := w.heap.size) (x := x) (X := fun _ => 0) ((hP.own (B := bk + 1) (by omega) hx).congr (fun j hj => by simp [sltP])) (fun j hj => ⟨fun h => absurd h (Int.lt_irrefl 0), fun h => absurd h (Int.lt_irrefl 0)⟩) (fun j hj h => absurd rfl h)).setUsed 0
 rw [World.setCell_alloc_past _ _ _ _ hlt, World.setCell_alloc_past _ _ _ _ (by simpa using hlt)] at hN
 have HN := uy hN
 have HB : Hid (∀ o, KX (fun b => b = bk) bk w (((w.setCell ⟨bk, 3, none⟩ (.slice (some ⟨w.heap.size, 0, none⟩) x x)).setCell ⟨bk, 4, none⟩ (.int .i64 0)).alloc o)) := uy (fun o => KX.alloc (n := bk) (A := w) (((KX.refl (fun b => b = bk) _ _).setCell (Nat.le_refl _) (fun _ => rfl) _).setCell (Nat.le_refl _) (fun _ => rfl) _) (by omega) _)
 clear hM hP hN
 go_enter Tryz.func154, Tryz.ntmps154
 go_wp2
 go_end0
 exact ⟨⟨⟨_, rfl⟩, uh HN⟩, uh HB _⟩
set_option maxRecDepth 100000 in
set_option maxHeartbeats 4000000 in
theorem remakeIndex_any (T : World → Prop) (hTl : Lasts T) (hf : Vl → Nat) (bk : Nat) (hTb : ∀ w w', T w → Below bk w w' → T w') (r0 r1 : Value) (R2 : Nat) (E S : Nat → Nat) (d : Dc) (g : Nat) (w : World) (hT : T w) (hM : BMut w bk r0 r1 R2 E S d) (hS : Small d)
  (hH : ∀ i, i < d.n → (d.L i).turn ≠ 0 → HsI T (d.L i).key (hf (d.L i).key)) (hlen : (hldL d d.n).length + g ≤ 500) :
  Calls Tryz.prog 144 #[.pointer (some ⟨bk, 0, none⟩), .int .i64 (g : Int)] w fun e w' => ((∃ u, e = .returned u) ∧ ∃ R2' S', BMut w' bk r0 r1 R2' E S' (fillL hf d (sizeX ((hldL d d.n).length + g)) (hldL d d.n)) ∧ w.heap.size ≤ R2') ∧ KX (fun b => b = bk) bk w w' := by
 obtain ⟨i0, hi0, hz0, hz1, hz2⟩ := info_parts infoEnt
 have hdm := hS.m
 have hdn := hS.n
 have hbkw := hM.lt
 refine (callsIn_wide (n := 20)).1 ?_
 refine callsIn_of_wp_marks Tryz.func144 rfl trivial ?_ rfl
 simp only [Tryz.ntmps144, List.size_toArray, List.length_cons, List.length_nil, Nat.reduceAdd, Nat.reduceSub, Array.replicate_succ, Array.replicate_zero, List.push_toArray, List.append_toArray, List.nil_append, List.cons_append]
 have HM := uy hM
 have HS := uy hS
 have HH := uy hH
 have HL := uy hlen
 have HT := uy hT
 clear hM hS hH hlen hT
 gi_wp2_with fail
 refine ⟨trivial, ?_⟩
 refine (callsIn_wide.2 (living_any bk _)).mono ?_
 rintro e w4 ⟨rfl, rfl⟩
 gi_wp2_with fail
 obtain ⟨u, hu⟩ : ∃ u, u = ((w.alloc (.cells #[.pointer (some ⟨bk, 0, none⟩)] 77)).alloc (.cells #[.slice none 0 0] 110)).alloc (.cells #[.pointer (some ⟨bk, 0, none⟩)] 77) := ⟨_, rfl⟩
 try simp only [World.size_alloc]
 rw [← hu]
 have zu : u.heap.size = w.heap.size + 1 + 1 + 1 := by rw [hu]; simp
 have bu : Below w.heap.size w u := by rw [hu]; exact (((Below.refl _ _).alloc (Nat.le_refl _) _).alloc (by simp) _).alloc (by simp; omega) _
 have mb0 : u.cell? ⟨w.heap.size + 1 + 1, 0, none⟩ = some (.pointer (some ⟨bk, 0, none⟩)) := by rw [hu]; simp [go_sem]
 have b0 : u.cell? ⟨w.heap.size, 0, none⟩ = some (.pointer (some ⟨bk, 0, none⟩)) := by rw [hu]; simp [go_sem]
 have hpu : u.rowIs (w.heap.size + 1) 110 1 (fun _ => .slice none 0 0) := by
  have h1 := World.rowIs_alloc (w.alloc (.cells #[.pointer (some ⟨bk, 0, none⟩)] 77)) #[.slice none 0 0] 110 (fun _ => .slice none 0 0) (fun i hi => by
   have : i = 0 := by simpa using hi
   subst this
   rfl)
  rw [World.size_alloc] at h1
  refine World.rowIs.of_block h1 ?_
  rw [hu]
  exact Deep.blk_alloc_lt _ _ _ (by simp)
 clear hu
 have hMu := (uh HM).below bu
 obtain ⟨R0, R1, hBu⟩ := hMu.book
 have c0u : u.cell? ⟨w.heap.size + 1, 0, none⟩ = some (.slice none 0 0) := hpu.cell (i := 0) (by omega)
 have hRp : 0 < d.n → R0 < u.heap.size ∧ R0 ≠ w.heap.size + 1 := fun h0 => ⟨hBu.l0, fun e => by
  have := hBu.r0 0 h0
  rw [e, c0u] at this
  cases this⟩
 have hEp : ∀ i, i < d.n → E i < u.heap.size ∧ E i ≠ w.heap.size + 1 := fun i hi => ⟨(hBu.ent i hi).lt, fun e => by
  have := (hBu.ent i hi).k0
  rw [e, c0u] at this
  cases this⟩
 obtain ⟨Q1, k1, e1⟩ := hMu.rf
 have c1u : u.cell? ⟨bk, 1, none⟩ = some (.slice (some ⟨Q1, 0, none⟩) d.m k1) := by rw [hMu.c1, e1]
 clear c0u
 refine wpIn_rangeFunc_ownF rfl (by decide) (gf := 107) (lb := #[.pointer (some ⟨w.heap.size + 1 + 1, 0, none⟩)]) rfl trivial (enters_of Tryz.func107 (by kernel_rfl) rfl)
  (living_stopsP 19 (by decide) bk R0 R1 R2 (w.heap.size + 1 + 1) (w.heap.size + 1) u.heap.size E S d u hBu (uh HS) hRp hEp mb0) KpB.trans (KpB.put (Nat.le_refl _)) (Below.refl _ _) (fun _ => rfl)
  (HdI w u (w.heap.size + 1) u.heap.size E d)
  (fun c pre W => False)
  (HdI.own w u (w.heap.size + 1) u.heap.size u.heap.size E d (Nat.le_refl _) (Nat.le_refl _) (by omega))
  (fun c _ _ _ _ h => h.elim)
  ⟨.slice none 0 0, hpu, World.ownsRow_nil _ _ _ _, KpB.refl _ _ _, bu⟩
  ?a1 ?assign ?body ?done ?stop
 case assign =>
  intro l x W K hK
  gi_wp2
  exact hK
 case stop =>
  rintro D c pre W hD hpre h hK
  exact h.elim
 case body =>
  rintro l pre ⟨i, hi, ht⟩ W ⟨v, hp, hown, hkp, hbw⟩ hlen
  have hblk := hkp.block (E i) (hEp i hi).1 (hEp i hi).2
  obtain ⟨hel, q0, q1, q2, q3, q4, _⟩ := (hBu.ent i hi).keep hkp.size hblk
  have cb : W.cell? ⟨w.heap.size, 0, none⟩ = some (.pointer (some ⟨bk, 0, none⟩)) := (World.cell?_of_block (a := ⟨w.heap.size, 0, none⟩) (hkp.block w.heap.size (by omega) (by omega))).trans b0
  have c1 : W.cell? ⟨bk, 1, none⟩ = some (.slice (some ⟨Q1, 0, none⟩) d.m k1) := (World.cell?_of_block (a := ⟨bk, 1, none⟩) (hkp.block bk (by omega) (by omega))).trans c1u
  have zW := hkp.size
  have lW : w.heap.size < W.heap.size := by omega
  have lb : bk < W.heap.size := by omega
  have HOW := uy hown
  have HKP := uy hkp
  have HBW := uy hbw
  have HP := uy hp
  have hpl := hp.lt
  have HLE := uy (hlP_le pre)
  clear hblk hown hkp hbw hp mb0
  by_cases hs : smallK d.m (d.L i).key
  ·have HSM := uy (tells_yes hs)
   have HL' := uy (hlP_no (pre := pre) (x := ⟨i, hi, ht⟩) hs)
   clear hs
   gi_wp2_with fail
   refine wpIn_region_quiet (C := fun w' => Below W.heap.size W w') (by kernel_rfl) (by kernel_rfl) (by kernel_rfl) ((Below.refl _ _).drew) ?_
   show wpQuiet _ _ _ _ [_, _, _, _, _, _, _, _, _, _, _, _] _
   iterate 4 (refine wpQuiet_step (fun K hK => ?_); go_simp; refine ⟨_, fun w' hw' => rfl, hK _ ?_⟩; clear hK K)
   refine wpQuiet_step (fun K hK => ?_)
   go_simp
   apply Exists.intro
   refine And.intro (fun w' hw' => ?_) (hK _ ?_)
   ·obtain ⟨hc', hf'⟩ := bcell hw'
    go_simp
    first | rfl | exact ⟨rfl, rfl⟩ | exact ⟨rfl⟩
   clear hK K
   refine wpQuiet_step (fun K hK => ?_)
   go_simp
   apply Exists.intro
   refine And.intro (fun w' hw' => ?_) (hK _ ?_)
   ·obtain ⟨hc', hf'⟩ := bcell hw'
    go_simp
    first | rfl | exact ⟨rfl, rfl⟩ | exact ⟨rfl⟩
   clear hK K
   iterate 2 (refine wpQuiet_step (fun K hK => ?_); go_simp; refine ⟨_, fun w' hw' => rfl, hK _ ?_⟩; clear hK K)
   refine wpQuiet_step (fun K hK => ?_)
   go_simp
   apply Exists.intro
   refine And.intro (fun w' hw' => ?_) (hK _ ?_)
   ·obtain ⟨hc', hf'⟩ := bcell hw'
    go_simp
    first | rfl | exact ⟨rfl, rfl⟩ | exact ⟨rfl⟩
   clear hK K
   refine wpQuiet_step (fun K hK => ?_)
   go_simp
   refine ⟨_, fun w' hw' => rfl, hK _ ?_⟩
   clear hK K
   refine wpQuiet_step (fun K hK => ?_)
   go_simp
   apply Exists.intro
   refine And.intro (fun w' hw' => ?_) (hK _ ?_)
   ·refine (((uh HSM) ▸ hasPlace_any (d.L i).key d.m _ hdm)).mono ?_
    rintro e w'' ⟨rfl, hb⟩
    exact ⟨rfl, hw'.trans (hb.mono hw'.size)⟩
   clear hK K
   refine wpQuiet_step (fun K hK => ?_)
   go_simp
   refine ⟨_, fun w' hw' => rfl, hK _ ?_⟩
   clear hK K
   refine wpQuiet_nil ?_
   intro w2 hw2
   gi_wp2
   exact HdI.below ⟨v, uh HP, uh HOW, uh HKP, uh HBW⟩ hw2 (uh HL') (by omega) (Nat.le_refl _)
  ·have HSM := uy (tells_no hs)
   have HNS := uy hs
   clear hs
   gi_wp2_with fail
   refine wpIn_region_quiet (C := fun w' => Below W.heap.size W w') (by kernel_rfl) (by kernel_rfl) (by kernel_rfl) ((Below.refl _ _).drew) ?_
   show wpQuiet _ _ _ _ [_, _, _, _, _, _, _, _, _, _, _, _] _
   iterate 4 (refine wpQuiet_step (fun K hK => ?_); go_simp; refine ⟨_, fun w' hw' => rfl, hK _ ?_⟩; clear hK K)
   refine wpQuiet_step (fun K hK => ?_)
   go_simp
   apply Exists.intro
   refine And.intro (fun w' hw' => ?_) (hK _ ?_)
   ·obtain ⟨hc', hf'⟩ := bcell hw'
    go_simp
    first | rfl | exact ⟨rfl, rfl⟩ | exact ⟨rfl⟩
   clear hK K
   refine wpQuiet_step (fun K hK => ?_)
   go_simp
   apply Exists.intro
   refine And.intro (fun w' hw' => ?_) (hK _ ?_)
   ·obtain ⟨hc', hf'⟩ := bcell hw'
    go_simp
    first | rfl | exact ⟨rfl, rfl⟩ | exact ⟨rfl⟩
   clear hK K
   iterate 2 (refine wpQuiet_step (fun K hK => ?_); go_simp; refine ⟨_, fun w' hw' => rfl, hK _ ?_⟩; clear hK K)
   refine wpQuiet_step (fun K hK => ?_)
   go_simp
   apply Exists.intro
   refine And.intro (fun w' hw' => ?_) (hK _ ?_)
   ·obtain ⟨hc', hf'⟩ := bcell hw'
    go_simp
    first | rfl | exact ⟨rfl, rfl⟩ | exact ⟨rfl⟩
   clear hK K
   refine wpQuiet_step (fun K hK => ?_)
   go_simp
   refine ⟨_, fun w' hw' => rfl, hK _ ?_⟩
   clear hK K
   refine wpQuiet_step (fun K hK => ?_)
   go_simp
   apply Exists.intro
   refine And.intro (fun w' hw' => ?_) (hK _ ?_)
   ·refine (((uh HSM) ▸ hasPlace_any (d.L i).key d.m _ hdm)).mono ?_
    rintro e w'' ⟨rfl, hb⟩
    exact ⟨rfl, hw'.trans (hb.mono hw'.size)⟩
   clear hK K
   refine wpQuiet_step (fun K hK => ?_)
   go_simp
   refine ⟨_, fun w' hw' => rfl, hK _ ?_⟩
   clear hK K
   refine wpQuiet_nil ?_
   intro w2 hw2
   have x2 : w2.cell? ⟨w.heap.size + 1, 0, none⟩ = some v := (hw2.cell (p := ⟨w.heap.size + 1, 0, none⟩) hpl).trans ((uh HP).cell (i := 0) (by omega))
   have hown2 : Rw w2 u.heap.size tEnt v (hlP d pre).length (eP E (hlP d pre)) := own_block (uh HOW) hw2.size (fun q _ hq => hw2.block q hq)
   have z2 := hw2.size
   have hpl2 : w.heap.size + 1 < w2.heap.size := by omega
   have hle := uh HLE
   have HAPP : Hid (∀ (o : Obj) (v3 : Value) (w3 : World), w3.ownsRow u.heap.size tEnt 1 v3 ((hlP d pre).length + 1) (ptL (eP E (hlP d pre)) (hlP d pre).length ++ [.pointer (some ⟨E i, 0, none⟩)]) → (w2.alloc o).grownBy w3 v.ownBlock → ∃ g3 cp3, v3 = .slice (some ⟨g3, 0, none⟩) ((hlP d pre).length + 1) cp3 ∧ (w3.cell? ⟨w.heap.size + 1, 0, none⟩ = some v ∧ w3.frozen? ⟨w.heap.size + 1, 0, none⟩ = false) ∧ KeepsOthers W (w3.setCell ⟨w.heap.size + 1, 0, none⟩ (.slice (some ⟨g3, 0, none⟩) ((hlP d pre).length + 1) cp3)) ∧ KpB (w.heap.size + 1) u.heap.size W (w3.setCell ⟨w.heap.size + 1, 0, none⟩ (.slice (some ⟨g3, 0, none⟩) ((hlP d pre).length + 1) cp3)) ∧ HdI w u (w.heap.size + 1) u.heap.size E d (pre ++ [⟨i, hi, ht⟩]) (w3.setCell ⟨w.heap.size + 1, 0, none⟩ (.slice (some ⟨g3, 0, none⟩) ((hlP d pre).length + 1) cp3))) := uy (fun o v3 w3 hown3 hgr3 => by
    obtain ⟨g3, cp3, rfl⟩ : ∃ g3 cp3, v3 = .slice (some ⟨g3, 0, none⟩) ((hlP d pre).length + 1) cp3 := by
     obtain ⟨_, ⟨_, h0⟩ | ⟨g, cap, cur, hv, _⟩⟩ := hown3
     ·omega
     ·exact ⟨g, cap, hv⟩
    exact ⟨g3, cp3, rfl, HdI.add (x := ⟨i, hi, ht⟩) (uh HP) (uh HOW) (uh HKP) (uh HBW) hw2 hown3 hgr3 (by omega) (Nat.le_refl _) (by omega) (uh HNS)⟩)
   have HOW2 := uy hown2
   clear hown2 hw2
   gi_wp2_with (gi_at_builtin; refine wpListIn_append_own _ rfl _ _ 110 rfl u.heap.size tEnt i0 (.pointer none) 1 8 Tryz.underlying110 hi0 hz0 hz1 hz2 rfl (by decide) v (hlP d pre).length (ptL (eP E (hlP d pre)) (hlP d pre).length) rfl (World.ownsRow.alloc (uh HOW2) _) ⟨w2.heap.size, 0, none⟩ 1 1 [.pointer (some ⟨E i, 0, none⟩)] rfl rfl (World.news_of_block (Deep.blk_alloc_new _ _)) (by simp [Value.oneCell']) (by unfold maxLen; omega) (by omega) (by simp; omega) ?_; intro v3 w3 hown3 hgr3 _; obtain ⟨g3, cp3, rfl, ⟨x3, f3⟩, HN3⟩ := uh HAPP _ v3 w3 hown3 hgr3; clear hown3 hgr3)
   exact HN3
 case done =>
  rintro D ys W hD hlv ⟨v, hp, hown, hkp, hbw⟩ hK
  have hlv' : ys.map (·.1) = livL d d.n := hlv
  rw [hlP_all hlv'] at hown
  obtain ⟨va, vc, rfl⟩ := hown.slice
  have x0 := hp.cell (i := 0) (by omega)
  have zW := hkp.size
  have cb : W.cell? ⟨w.heap.size, 0, none⟩ = some (.pointer (some ⟨bk, 0, none⟩)) := (World.cell?_of_block (a := ⟨w.heap.size, 0, none⟩) (hkp.block w.heap.size (by omega) (by omega))).trans b0
  have hln := uh HL
  have hmem : ∀ q ∈ hldL d d.n, q < d.n ∧ (d.L q).turn ≠ 0 ∧ ¬ smallK d.m (d.L q).key := fun q hq => mem_hldL hq
  have HMEM := uy hmem
  have HMW := uy ((uh HM).below hbw)
  have HBW := uy hbw
  have HOW := uy hown
  have hsl := sizeX_le hln
  have hsr := sizeX_room hln
  have lW : w.heap.size < W.heap.size := by omega
  have lW1 : w.heap.size + 1 < W.heap.size := by omega
  have lb : bk < W.heap.size := by omega
  have hrow : ∀ q, (Value.slice va (hldL d d.n).length vc).ownBlock = some q → u.heap.size ≤ q ∧ q < W.heap.size := fun q e => hown.lt q e
  have HROW := uy hrow
  generalize hHH : hldL d d.n = H at *
  have HHH := uy hHH
  clear hHH
  have hw1 : IntKind.i64.wrap ((H.length : Int) + (g : Int)) = (H.length : Int) + (g : Int) := by rw [IntKind.wrap_i64]; omega
  clear hlv hlv' hp hown hkp hbw hmem hrow mb0 b0 c1u hMu hBu hpu hRp hEp bu
  have HIS : Hid (∀ W', Calls Tryz.prog 155 #[.int .i64 ((H.length : Int) + (g : Int))] W' fun e w' => e = .returned (.int .i64 (sizeX (H.length + g) : Nat)) ∧ Below W'.heap.size W' w') := uy (fun W' => by
   have h1 := indexSize_any (H.length + g) W' hln
   rw [Int.natCast_add] at h1
   exact h1)
  gi_wp2_with fail
  refine wpInW_held (HeldR w.heap.size bk (w.heap.size + 1) (.slice va H.length vc)) (by kernel_rfl) ?_
  change wpAnyH _ _ _ _ _ _ _ _ (World.drew _)
  have hS0 : HeldR w.heap.size bk (w.heap.size + 1) (.slice va H.length vc) W.drew := ⟨cb, x0⟩
  refine tk 0 (v := ?_) rfl (by kernel_rfl) (by rfl) ?_ (by assumption) ?_
  rotate_left
  ·intro w' ⟨s0, s1⟩; go_simp; try with_reducible rfl
  simp only [Act.put, sA, sB, sC]
  refine tk 1 (v := ?_) rfl (by kernel_rfl) (by rfl) ?_ (by assumption) ?_
  rotate_left
  ·intro w' ⟨s0, s1⟩; go_simp; try with_reducible rfl
  simp only [Act.put, sA, sB, sC]
  refine tk 2 (v := ?_) rfl (by kernel_rfl) (by rfl) ?_ (by assumption) ?_
  rotate_left
  ·intro w' ⟨s0, s1⟩; go_simp; try with_reducible rfl
  simp only [Act.put, sA, sB, sC]
  refine tk 3 (v := ?_) rfl (by kernel_rfl) (by rfl) ?_ (by assumption) ?_
  rotate_left
  ·intro w' ⟨s0, s1⟩; go_simp; try with_reducible rfl
  simp only [Act.put, sA, sB, sC]
  refine tk 4 (v := ?_) rfl (by kernel_rfl) (by rfl) ?_ (by assumption) ?_
  rotate_left
  ·intro w' ⟨s0, s1⟩; go_simp; try with_reducible rfl
  simp only [Act.put, sA, sB, sC]
  refine tk 5 (v := ?_) rfl (by kernel_rfl) (by rfl) ?_ (by assumption) ?_
  rotate_left
  ·intro w' ⟨s0, s1⟩; go_simp; try with_reducible rfl
  simp only [Act.put, sA, sB, sC]
  refine tk 6 (v := ?_) rfl (by kernel_rfl) (by rfl) ?_ (by assumption) ?_
  rotate_left
  ·intro w' ⟨s0, s1⟩; go_simp; try with_reducible rfl
  simp only [Act.put, sA, sB, sC]
  refine wpAnyH_ready (rs := [7]) (by kernel_rfl) (by simp) ?_
  refine AllReadyH.cons rfl (fun K hK => ?_) AllReadyH.nil
  go_simp
  refine (uh HIS _).mono ?_
  rintro e w1 ⟨rfl, hb1⟩
  have hb1 : Below W.heap.size W w1 := (Below.refl W.heap.size W).drew.trans hb1
  have cb1 := (hb1.cell (p := ⟨w.heap.size, 0, none⟩) lW).trans cb
  have x1 := (hb1.cell (p := ⟨w.heap.size + 1, 0, none⟩) lW1).trans x0
  refine hK.out _ _ ⟨cb1, x1⟩ (fun hS1 => ?_)
  clear hK K hS0
  have z1 := hb1.size
  generalize hsx : sizeX (H.length + g) = sx at *
  have HSX := uy hsx
  clear hsx
  refine wpAnyH_ready (rs := [8]) (by kernel_rfl) (by simp) ?_
  refine AllReadyH.cons rfl (fun K hK => ?_) AllReadyH.nil
  go_simp
  refine (indexEmpty_kx bk r0 r1 R2 E S d sx w1 ((uh HMW).below hb1) (by omega)).mono ?_
  rintro e w2 ⟨⟨⟨uu, rfl⟩, hM2⟩, hkx⟩
  have z2 := hkx.bel.size
  have cb2 := (World.cell?_of_block (a := ⟨w.heap.size, 0, none⟩) (hkx.blk w.heap.size (by omega) (by omega))).trans cb1
  have x2 := (World.cell?_of_block (a := ⟨w.heap.size + 1, 0, none⟩) (hkx.blk (w.heap.size + 1) (by omega) (by omega))).trans x1
  refine hK.out _ _ ⟨cb2, x2⟩ (fun hS2 => ?_)
  clear hK K hS1 cb1 x1 cb x0
  refine wpAnyH_done (by kernel_rfl) ?_ _
  refine QN.normal ?_
  have HKX : Hid (KX (fun b => b = bk) bk w w2) := uy (((KX.of_below (uh HBW) (by omega)).trans (KX.of_below hb1 (by omega))).trans hkx)
  have HBLK : Hid (∀ b, b < W.heap.size → b ≠ bk → w2.heap[b]? = W.heap[b]?) := uy (fun b hb hne => (hkx.blk b (by omega) hne).trans (hb1.block b hb))
  have hDW : D < W.heap.size := (Array.getElem?_eq_some_iff.1 hK).1
  have hK2 : w2.heap[D]? = some (.deferred (some [])) := (uh HBLK D (Array.getElem?_eq_some_iff.1 hK).1 (by omega)).trans hK
  have HM2 := uy hM2
  clear hb1 hM2 hkx hS2 hK
  gi_wp2
  gi_loopw [38] (fun i wr => ∃ (j : Nat) (S' : Nat → Nat), j ≤ H.length ∧ i = .int .i64 (j : Int) ∧ BMut wr bk r0 r1 w1.heap.size E S' (fillL hf d sx (H.take j)) ∧ KX (fun b => b = bk ∨ b = w1.heap.size) bk w2 wr) (fun i _ => H.length - (intOf i).toNat)
  case atStart => exact ⟨0, S, by omega, rfl, uh HM2, KX.refl _ _ _⟩
  case round =>
   obtain ⟨j, S', hj, rfl, hMr, hkr⟩ := hrel
   by_cases hjn : j < H.length
   ·obtain ⟨p, hp⟩ : ∃ p, p = H[j] := ⟨_, rfl⟩
    obtain ⟨hp1, hp2, hp3⟩ := uh HMEM H[j] (List.getElem_mem hjn)
    rw [← hp] at hp1 hp2
    have hfo := fillL_ok (hf := hf) (d := d) (x := sx) (l := H.take j) (by simp; omega) (fun p hp => (uh HMEM p (List.mem_of_mem_take hp)).1)
    rw [List.length_take, Nat.min_eq_left (by omega)] at hfo
    have hnx : fillL hf d sx (H.take (j + 1)) = enterD hf (fillL hf d sx (H.take j)) (d.L p).key p := by rw [← List.take_append_getElem hjn, fillL_snoc, ← hp]
    obtain ⟨gq, cq, eq, g1, g2, _, hqc, _⟩ := (uh HOW).form (by omega)
    cases eq
    have hb := fun b (h : b < W.heap.size) (h' : b ≠ bk) => (hkr.blk b (by omega) (by rintro (e | e) <;> omega)).trans (uh HBLK b h h')
    have rc : wr.cell? ⟨gq, j, none⟩ = some (.pointer (some ⟨E p, 0, none⟩)) := (World.cell?_of_block (a := ⟨gq, j, none⟩) (hb gq g2 (by omega))).trans (by rw [hqc j hjn, hp]; simp [eP, List.getD, hjn])
    have cbr : wr.cell? ⟨w.heap.size, 0, none⟩ = some (.pointer (some ⟨bk, 0, none⟩)) := (World.cell?_of_block (a := ⟨w.heap.size, 0, none⟩) (hkr.blk w.heap.size (by omega) (by rintro (e | e) <;> omega))).trans cb2
    have hen := hMr.ent p (by rw [hfo.n]; exact hp1)
    rw [hfo.L] at hen
    have hzr := hkr.bel.size
    have hlr := hen.lt
    have lgr : gq < wr.heap.size := by omega
    have lwr : w.heap.size < wr.heap.size := by omega
    have lbr : bk < wr.heap.size := by omega
    have HADD : Hid (Calls Tryz.prog 145 #[.pointer (some ⟨bk, 2, none⟩), V (d.L p).key.kind (d.L p).key.num (d.L p).key.flt (d.L p).key.str (d.L p).key.ref, .pointer (some ⟨E p, 0, none⟩)] wr.drew fun e w5 => (∃ u, e = .returned u) ∧ (∃ S5, BMut w5 bk r0 r1 w1.heap.size E S5 (fillL hf d sx (H.take (j + 1)))) ∧ KX (fun b => b = bk ∨ b = w1.heap.size) bk w2 w5 ∧ HeldK w.heap.size bk (E p) (d.L p).key w5) := uy (by
     have hux := hfo.use
     have huu := hfo.used
     refine (indexAdd_any T hTl bk r0 r1 w1.heap.size E S' _ (d.L p).key p (hf (d.L p).key) (uh HH p hp1 hp2) wr.drew (hTb _ _ (uh HT) (((uh HKX).bel.trans hkr.bel).drew)) (hMr.below (Below.refl _ _).drew) ⟨by rw [hfo.n]; omega, by rw [hfo.m]; omega, by rw [hfo.x]; omega⟩ (fun q hq => by rw [hfo.x] at hq; have := hfo.pos q hq; omega) (by rw [hfo.L]) (by rw [hfo.x]; omega) (by omega) (by omega)).mono ?_
     rintro e w5 ⟨⟨hu, a5, S5, hfs, hN5⟩, hkx5⟩
     rw [← enterD_some hfs, ← hnx] at hN5
     have hk5 : KX (fun b => b = bk ∨ b = w1.heap.size) bk w2 w5 := hkr.trans (KX.trans ((KX.refl _ _ _).drew) hkx5)
     have hfo5 := fillL_ok (hf := hf) (d := d) (x := sx) (l := H.take (j + 1)) (by simp; omega) (fun p hp => (uh HMEM p (List.mem_of_mem_take hp)).1)
     have hen5 := hN5.ent p (by rw [hfo5.n]; exact hp1)
     rw [hfo5.L] at hen5
     exact ⟨hu, ⟨S5, hN5⟩, hk5, (World.cell?_of_block (a := ⟨w.heap.size, 0, none⟩) (hk5.blk w.heap.size (by omega) (by rintro (e | e) <;> omega))).trans cb2, hen5.k0, hen5.k1, hen5.k2, hen5.k3, hen5.k4⟩)
    have hS0 : HeldK w.heap.size bk (E p) (d.L p).key wr.drew := ⟨cbr, hen.k0, hen.k1, hen.k2, hen.k3, hen.k4⟩
    clear hfo hnx hqc hb hen hMr hkr cbr hp
    gi_wp2_with fail
    refine wpInW_held (HeldK w.heap.size bk (E p) (d.L p).key) (by kernel_rfl) ?_
    change wpAnyH _ _ _ _ _ _ _ _ (World.drew _)
    refine tk 0 (v := ?_) rfl (by kernel_rfl) (by rfl) ?_ (by assumption) ?_
    rotate_left
    ·intro w' ⟨s0, s1, s2, s3, s4, s5⟩; go_simp; try with_reducible rfl
    simp only [Act.put, sA, sB, sC]
    refine tk 1 (v := ?_) rfl (by kernel_rfl) (by rfl) ?_ (by assumption) ?_
    rotate_left
    ·intro w' ⟨s0, s1, s2, s3, s4, s5⟩; go_simp; try with_reducible rfl
    simp only [Act.put, sA, sB, sC]
    refine tk 2 (v := ?_) rfl (by kernel_rfl) (by rfl) ?_ (by assumption) ?_
    rotate_left
    ·intro w' ⟨s0, s1, s2, s3, s4, s5⟩; go_simp; try with_reducible rfl
    simp only [Act.put, sA, sB, sC]
    refine tk 3 (v := ?_) rfl (by kernel_rfl) (by rfl) ?_ (by assumption) ?_
    rotate_left
    ·intro w' ⟨s0, s1, s2, s3, s4, s5⟩; go_simp; try with_reducible rfl
    simp only [Act.put, sA, sB, sC]
    refine tk 4 (v := ?_) rfl (by kernel_rfl) (by rfl) ?_ (by assumption) ?_
    rotate_left
    ·intro w' ⟨s0, s1, s2, s3, s4, s5⟩; go_simp; try with_reducible rfl
    simp only [Act.put, sA, sB, sC]
    refine tk 5 (v := ?_) rfl (by kernel_rfl) (by rfl) ?_ (by assumption) ?_
    rotate_left
    ·intro w' ⟨s0, s1, s2, s3, s4, s5⟩; go_simp; try with_reducible rfl
    simp only [Act.put, sA, sB, sC]
    refine tk 6 (v := ?_) rfl (by kernel_rfl) (by rfl) ?_ (by assumption) ?_
    rotate_left
    ·intro w' ⟨s0, s1, s2, s3, s4, s5⟩; go_simp; try with_reducible rfl
    simp only [Act.put, sA, sB, sC]
    refine tk 7 (v := ?_) rfl (by kernel_rfl) (by rfl) ?_ (by assumption) ?_
    rotate_left
    ·intro w' ⟨s0, s1, s2, s3, s4, s5⟩; go_simp; try with_reducible rfl
    simp only [Act.put, sA, sB, sC]
    refine tk 8 (v := ?_) rfl (by kernel_rfl) (by rfl) ?_ (by assumption) ?_
    rotate_left
    ·intro w' ⟨s0, s1, s2, s3, s4, s5⟩; go_simp; try with_reducible rfl
    simp only [Act.put, sA, sB, sC]
    refine wpAnyH_ready (rs := [9]) (by kernel_rfl) (by simp) ?_
    refine AllReadyH.cons rfl (fun K hK => ?_) AllReadyH.nil
    go_simp
    refine (uh HADD).mono ?_
    rintro e w5 ⟨⟨uu5, rfl⟩, ⟨S5, hM5⟩, hk5, hS5⟩
    refine hK.out _ _ hS5 (fun _ => ?_)
    clear hK K hS0 HADD hS5
    refine wpAnyH_done (by kernel_rfl) ?_ _
    refine QN.normal ?_
    have HM5 := uy hM5
    have HK5 := uy hk5
    clear hM5 hk5
    gi_wp2
    go_roundw
    case rel => exact ⟨j + 1, S5, by omega, by go_num, uh HM5, uh HK5⟩
    case measure => simp [intOf]; omega
   ·have hj' : j = H.length := by omega
    subst hj'
    rw [List.take_length] at hMr
    have hKr : wr.heap[D]? = some (.deferred (some [])) := (hkr.blk D (by omega) (by rintro (e | e) <;> omega)).trans hK2
    have HMr := uy hMr
    have HKr : Hid (KX (fun b => b = bk) bk w wr) := uy ⟨(uh HKX).bel.trans hkr.bel, fun b hb hm => (hkr.blk b (by have := (uh HKX).bel.size; omega) (by rintro (e | e); exact hm e; omega)).trans ((uh HKX).blk b hb hm)⟩
    clear hMr hkr
    gi_wp2
    refine ⟨by simp, .inl ⟨_, _, rfl, run_takeDeferred hKr, ?_⟩⟩
    have hg := grownBy_putObj' wr D (.deferred none)
    exact ⟨_, results_none rfl _ _ _, ⟨⟨_, rfl⟩, w1.heap.size, S', by rw [uh HHH, uh HSX]; exact (uh HMr).grown hg (fun r e => by cases e; exact ⟨_, hKr, rfl⟩), by omega⟩, (uh HKr).grown hg (by omega) (fun k e => by cases e; exact .inl (by omega))⟩
end
end Go.Proofs.YtglcaejddckleaaGreatDoor
