/-
  DiI, DiJ, DiK.
-/
import Derived.Test.YtfceeijdmilieaaGreatBr9
namespace Go.Proofs.YtfceeijdmilieaaGreat
open Go.RowKit Go.Shelf
set_option linter.unusedVariables false
attribute [local go_sem] run_store_float run_equalIn_float Oper.semAt_some

/-- The search ends at slot a. -/
def Stop (d : Dc) (v : Vl) (a : Nat) : Prop := d.X a = 0 ∨ (0 < d.X a ∧ likeB (d.at (d.X a)).key v = true)
open Classical in
/-- The search over a list of slots. -/
noncomputable def findL (d : Dc) (v : Vl) : List Nat → Option Nat
  | [] => none
  | a :: l => if d.X a = 0 then none else if 0 < d.X a ∧ likeB (d.at (d.X a)).key v = true then some a else findL d v l
theorem findL_none {d : Dc} {v : Vl} {l : List Nat} (h : ∀ a ∈ l, ¬ Stop d v a) : findL d v l = none := by
  induction l with
  | nil => rfl
  | cons a l ih =>
    have h1 := h a (by simp)
    unfold findL
    rw [if_neg (fun e => h1 (.inl e)), if_neg (fun e => h1 (.inr e))]
    exact ih (fun b hb => h b (by simp [hb]))
theorem findL_stop {d : Dc} {v : Vl} {l l' : List Nat} {a : Nat} (h : ∀ b ∈ l, ¬ Stop d v b) (hp : l ++ [a] <+: l') (hs : Stop d v a) : findL d v l' = if d.X a = 0 then none else some a := by
  obtain ⟨r, rfl⟩ := hp
  induction l with
  | nil =>
    show (if _ then _ else _) = _
    by_cases e : d.X a = 0
    · rw [if_pos e, if_pos e]
    · rw [if_neg e, if_neg e, if_pos (hs.resolve_left e)]
  | cons b l ih =>
    have h1 := h b (by simp)
    show (if _ then _ else _) = _
    rw [if_neg (fun e => h1 (.inl e)), if_neg (fun e => h1 (.inr e))]
    exact ih (fun c hc => h c (by simp [hc]))
theorem probe_findL {d : Dc} {v : Vl} (hx : 0 < d.x) : ∀ (f a : Nat), a < d.x → probe d v a f = findL d v (seqL d.x a f) := by
  intro f
  induction f with
  | zero => intro a _; rfl
  | succ f ih =>
    intro a ha
    have e : seqL d.x a (f + 1) = a :: seqL d.x ((a + 1) % d.x) f := by
      unfold seqL
      rw [List.range_succ_eq_map]
      simp only [List.map_cons, List.map_map, Nat.add_zero, Nat.mod_eq_of_lt ha]
      congr 1
      apply List.map_congr_left
      intro j _
      simp only [Function.comp]
      rw [Nat.mod_add_mod]
      congr 1
      omega
    rw [e]
    show (if _ then _ else _) = (if _ then _ else _)
    rw [ih _ (Nat.mod_lt _ hx)]
theorem slotOf_findL {d : Dc} {v : Vl} {h : Nat} : slotOf d v h = findL d v (seqL d.x (h % d.x) d.x) := by
  unfold slotOf
  by_cases h0 : d.x = 0
  · rw [if_pos h0, h0]; rfl
  · rw [if_neg h0]
    exact probe_findL (by omega) _ _ (Nat.mod_lt _ (by omega))

theorem keeps_of_below {W W' : World} (h : Below W.heap.size W W') : KeepsOthers W W' := ⟨h.size, fun k o hk _ => (h.block k (Array.getElem?_eq_some_iff.1 hk).1).trans hk⟩

set_option maxRecDepth 100000 in
set_option maxHeartbeats 4000000 in
theorem find_any (T : World → Prop) (hTl : Lasts T) (bk R0 R1 R2 : Nat) (E S : Nat → Nat) (d : Dc) (v : Vl) (h : Nat) (hh : HsI T v h) (w : World) (hT : T w) (hB : Book w bk R0 R1 R2 E S d) (hS : Small d) (h4 : D4 d) :
    Calls Tryz.prog 139 #[.pointer (some ⟨bk, 2, none⟩), V v.kind v.num v.flt v.str v.ref] w fun e w' => e = .returned (.int .i64 (slotI (slotOf d v h))) ∧ Below w.heap.size w w' := by
  have hx := hS.x
  refine (callsIn_wide (n := 10)).1 ?_
  refine callsIn_of_wp_marks Tryz.func139 rfl trivial ?_ rfl
  simp only [Tryz.ntmps139, List.size_toArray, List.length_cons, List.length_nil, Nat.reduceAdd, Nat.reduceSub, Array.replicate_succ, Array.replicate_zero, List.push_toArray, List.append_toArray, List.nil_append, List.cons_append]
  gi_wp2_with (refine ⟨trivial, ?_⟩; gi_at_call 145; refine (callsIn_wide.2 (from_any (some ⟨bk, 2, none⟩) v _)).mono ?_; rintro e w' ⟨rfl, rfl⟩)
  obtain ⟨u, hu⟩ : ∃ u, u = ((((w.alloc (.cells #[.pointer (some ⟨bk, 2, none⟩)] 219)).alloc (.cells #[.int .i64 v.kind, .int .i64 v.num, .float .f64 v.flt, .string v.str, .int .i64 v.ref] 85)).alloc (.cells #[.int .i64 0] 3)).alloc (.cells #[.pointer (some ⟨bk, 2, none⟩)] 219)).alloc (.cells #[.int .i64 v.kind, .int .i64 v.num, .float .f64 v.flt, .string v.str, .int .i64 v.ref] 85) := ⟨_, rfl⟩
  rw [← hu]
  have zu : u.heap.size = w.heap.size + 5 := by rw [hu]; simp
  have bu : Below w.heap.size w u := by rw [hu]; exact (((((Below.refl _ _).alloc (Nat.le_refl _) _).alloc (by simp) _).alloc (by simp; omega) _).alloc (by simp; omega) _).alloc (by simp; omega) _
  have n0 : u.cell? ⟨w.heap.size, 0, none⟩ = some (.pointer (some ⟨bk, 2, none⟩)) := by rw [hu]; simp [go_sem]
  have i0 : u.cell? ⟨w.heap.size + 1, 0, none⟩ = some (.int .i64 v.kind) := by rw [hu]; simp [go_sem]
  have i1 : u.cell? ⟨w.heap.size + 1, 1, none⟩ = some (.int .i64 v.num) := by rw [hu]; simp [go_sem]
  have i2 : u.cell? ⟨w.heap.size + 1, 2, none⟩ = some (.float .f64 v.flt) := by rw [hu]; simp [go_sem]
  have i3 : u.cell? ⟨w.heap.size + 1, 3, none⟩ = some (.string v.str) := by rw [hu]; simp [go_sem]
  have i4 : u.cell? ⟨w.heap.size + 1, 4, none⟩ = some (.int .i64 v.ref) := by rw [hu]; simp [go_sem]
  have r0 : u.cell? ⟨w.heap.size + 1 + 1, 0, none⟩ = some (.int .i64 0) := by rw [hu]; simp [go_sem]
  have r1 : u.frozen? ⟨w.heap.size + 1 + 1, 0, none⟩ = false := by rw [hu]; simp [go_sem]
  have m0 : u.cell? ⟨w.heap.size + 1 + 1 + 1, 0, none⟩ = some (.pointer (some ⟨bk, 2, none⟩)) := by rw [hu]; simp [go_sem]
  have j0 : u.cell? ⟨w.heap.size + 1 + 1 + 1 + 1, 0, none⟩ = some (.int .i64 v.kind) := by rw [hu]; simp [go_sem]
  have j1 : u.cell? ⟨w.heap.size + 1 + 1 + 1 + 1, 1, none⟩ = some (.int .i64 v.num) := by rw [hu]; simp [go_sem]
  have j2 : u.cell? ⟨w.heap.size + 1 + 1 + 1 + 1, 2, none⟩ = some (.float .f64 v.flt) := by rw [hu]; simp [go_sem]
  have j3 : u.cell? ⟨w.heap.size + 1 + 1 + 1 + 1, 3, none⟩ = some (.string v.str) := by rw [hu]; simp [go_sem]
  have j4 : u.cell? ⟨w.heap.size + 1 + 1 + 1 + 1, 4, none⟩ = some (.int .i64 v.ref) := by rw [hu]; simp [go_sem]
  have hBu := hB.below bu
  have hTu := hTl _ _ hT bu
  clear hu
  refine wpIn_rangeFunc_ownF rfl (by decide) (gf := 152) (lb := #[.pointer (some ⟨w.heap.size + 1 + 1 + 1, 0, none⟩), .pointer (some ⟨w.heap.size + 1 + 1 + 1 + 1, 0, none⟩)]) rfl trivial (enters_of Tryz.func152 (by kernel_rfl) rfl)
    (from_stops 9 (by decide) T hTl bk R2 (w.heap.size + 1 + 1 + 1) (w.heap.size + 1 + 1 + 1 + 1) d v h w.heap.size hh u hTu hx m0 hBu.c2 hBu.c3 j0 j1 j2 j3 j4) belowK_t (belowK_b (by omega)) (Below.refl _ _) (fun _ => rfl)
    (fun pre W => ((∀ y ∈ pre, ¬ Stop d v y.1) ∧ W.cell? ⟨w.heap.size, 0, none⟩ = some (.pointer (some ⟨bk, 2, none⟩)) ∧ W.cell? ⟨w.heap.size + 1, 0, none⟩ = some (.int .i64 v.kind) ∧ W.cell? ⟨w.heap.size + 1, 1, none⟩ = some (.int .i64 v.num) ∧ W.cell? ⟨w.heap.size + 1, 2, none⟩ = some (.float .f64 v.flt) ∧ W.cell? ⟨w.heap.size + 1, 3, none⟩ = some (.string v.str) ∧ W.cell? ⟨w.heap.size + 1, 4, none⟩ = some (.int .i64 v.ref) ∧ W.cell? ⟨w.heap.size + 1 + 1, 0, none⟩ = some (.int .i64 0) ∧ W.frozen? ⟨w.heap.size + 1 + 1, 0, none⟩ = false) ∧ Below w.heap.size w W)
    (fun c pre W => (c = .ret ∧ (∃ pre' a, pre = pre' ++ [a] ∧ (∀ y ∈ pre', ¬ Stop d v y.1) ∧ Stop d v a.1 ∧ W.cell? ⟨w.heap.size + 1 + 1, 0, none⟩ = some (.int .i64 (slotI (if d.X a.1 = 0 then none else some a.1))))) ∧ Below w.heap.size w W)
    (OwnFrom.and (Own.from (fun s A B row hs hg hr => ⟨hs.1, cell_kept hs.2.1 hg hr, cell_kept hs.2.2.1 hg hr, cell_kept hs.2.2.2.1 hg hr, cell_kept hs.2.2.2.2.1 hg hr, cell_kept hs.2.2.2.2.2.1 hg hr, cell_kept hs.2.2.2.2.2.2.1 hg hr, cell_kept hs.2.2.2.2.2.2.2.1 hg hr, (frozen_kept hs.2.2.2.2.2.2.2.1 hg hr).trans hs.2.2.2.2.2.2.2.2⟩) _) (ownFrom_below (Nat.le_refl _) (by omega)))
    (fun c => OwnFrom.and (Own.from (fun s A B row hs hg hr => ⟨hs.1, by obtain ⟨pre', a, h1, h2, h3, h4⟩ := hs.2; exact ⟨pre', a, h1, h2, h3, cell_kept h4 hg hr⟩⟩) _) (ownFrom_below (Nat.le_refl _) (by omega)))
    ⟨⟨by simp, n0, i0, i1, i2, i3, i4, r0, r1⟩, bu⟩
    ?a1 ?assign ?body ?done ?stop
  case assign =>
    intro l x W K hK
    gi_wp2
    exact hK
  case body =>
    rintro l pre ⟨a, ha⟩ W ⟨⟨hp, g0, e0, e1, e2, e3, e4, s0, s1⟩, hBW⟩ _
    have hBk := hB.below hBW
    have c3 := hBk.c3
    have p0 := hBk.r2 a ha
    have hsl := hBk.sl a ha
    have lW : bk < W.heap.size := hBk.lt
    have lR : R2 < W.heap.size := hBk.l2
    have z0 := World.block_lt_of_cell? _ _ g0
    have z1 := World.block_lt_of_cell? _ _ e0
    have z2 := World.block_lt_of_cell? _ _ s0
    dsimp only at z0 z1 z2
    have HP := hide hp
    have HBW := hide hBW
    clear hBk hp hBW n0 i0 i1 i2 i3 i4 r0 r1 m0 j0 j1 j2 j3 j4 hBu hTu bu zu hB hT hh hTl
    rcases h4.2.1 a ha with hs | hs | hs
    · have hst : Stop d v a := .inl hs
      have HS := hide hst
      rw [show sltP S a (d.X a) = none from if_pos hs] at p0
      have HX : Hid (slotI (if d.X a = 0 then none else some a) = -1) := hide (by rw [if_pos hs]; rfl)
      clear hsl hs hst
      gi_wp2
      exact ⟨KeepsOthers.setCell _ _ _, ⟨rfl, pre, ⟨a, ha⟩, rfl, unhide HP, unhide HS, by rw [unhide HX]; exact World.cell?_setCell_same' _ _ _ (by rw [s0]; rfl)⟩, (unhide HBW).setCell (p := ⟨w.heap.size + 1 + 1, 0, none⟩) (by show w.heap.size ≤ w.heap.size + 1 + 1; omega) _⟩
    · have hns : ¬ Stop d v a := fun h => by rcases h with h | h <;> omega
      have HS := hide hns
      rw [show sltP S a (d.X a) = some ⟨S a, 0, none⟩ from if_neg (by omega)] at p0
      obtain ⟨hsz, hgn⟩ := hsl.2 (by omega)
      clear hsl hs hns
      gi_wp2
      refine wpIn_region_quiet (C := fun w' => Below W.heap.size W w') (by kernel_rfl) (by kernel_rfl) (by kernel_rfl) ((Below.refl _ _).drew) ?_
      show wpQuiet _ _ _ _ [_, _, _, _, _, _, _, _, _, _, _, _, _] _
      refine wpQuiet_step (fun K hK => ?_)
      go_simp
      refine ⟨_, fun w' hw' => rfl, hK _ ?_⟩
      clear hK K
      refine wpQuiet_step (fun K hK => ?_)
      go_simp
      refine ⟨_, fun w' hw' => rfl, hK _ ?_⟩
      clear hK K
      refine wpQuiet_step (fun K hK => ?_)
      go_simp
      refine ⟨_, fun w' hw' => rfl, hK _ ?_⟩
      clear hK K
      refine wpQuiet_step (fun K hK => ?_)
      go_simp
      apply Exists.intro
      refine And.intro (fun w' hw' => ?_) (hK _ ?_)
      · obtain ⟨hc', hf'⟩ := bcell hw'
        go_simp
        first | rfl | exact ⟨rfl, rfl⟩ | exact ⟨rfl⟩
      clear hK K
      refine wpQuiet_step (fun K hK => ?_)
      go_simp
      refine ⟨_, fun w' hw' => rfl, hK _ ?_⟩
      clear hK K
      refine wpQuiet_step (fun K hK => ?_)
      go_simp
      refine ⟨_, fun w' hw' => rfl, hK _ ?_⟩
      clear hK K
      go_big_quiet_step (fail)
      go_big_quiet_step (fail)
      go_big_quiet_step (fail)
      go_big_quiet_step (fail)
      go_big_quiet_step (fail)
      go_big_quiet_step (fail)
      refine wpQuiet_step (fun K hK => ?_)
      go_simp
      refine ⟨_, fun w' hw' => rfl, hK _ ?_⟩
      clear hK K
      refine wpQuiet_nil ?_
      intro w2 hw2
      have HK := hide (keeps_of_below hw2)
      have HB2 := hide hw2
      have g0 := (hw2.cell (p := ⟨w.heap.size, 0, none⟩) z0).trans g0
      have e0 := (hw2.cell (p := ⟨w.heap.size + 1, 0, none⟩) z1).trans e0
      have e1 := (hw2.cell (p := ⟨w.heap.size + 1, 1, none⟩) z1).trans e1
      have e2 := (hw2.cell (p := ⟨w.heap.size + 1, 2, none⟩) z1).trans e2
      have e3 := (hw2.cell (p := ⟨w.heap.size + 1, 3, none⟩) z1).trans e3
      have e4 := (hw2.cell (p := ⟨w.heap.size + 1, 4, none⟩) z1).trans e4
      have s0 := (hw2.cell (p := ⟨w.heap.size + 1 + 1, 0, none⟩) z2).trans s0
      have s1 := (hw2.frozen (p := ⟨w.heap.size + 1 + 1, 0, none⟩) z2).trans s1
      clear hw2
      gi_wp2
      exact ⟨unhide HK, (unhide HB2).mono (unhide HBW).size, ⟨fun y hy => (List.mem_append.1 hy).elim (unhide HP y) (fun e => by simp at e; subst e; exact unhide HS), g0, e0, e1, e2, e3, e4, s0, s1⟩, (unhide HBW).trans ((unhide HB2).mono (unhide HBW).size)⟩
    · rw [show sltP S a (d.X a) = some ⟨S a, 0, none⟩ from if_neg (by omega)] at p0
      obtain ⟨hsz, f0, f1, f2, f3, f4, f5, f6⟩ := hsl.1 hs.1
      have hsp := hs.1
      generalize hkv : (d.at (d.X a)).key = kv at *
      cases hlk : likeB kv v
      · have hns : ¬ Stop d v a := fun h => by
          rcases h with h | h
          · omega
          · rw [hkv, hlk] at h; exact absurd h.2 (by decide)
        have HS := hide hns
        have hl' : (kv.kind == v.kind && (kv.num == v.num && ((FloatKind.f64.format.order kv.flt v.flt == some .eq) && (kv.str.toList == v.str.toList && kv.ref == v.ref)))) = false := hlk
        clear hsl hs hns hsp hkv
        gi_wp2
        refine wpIn_region_quiet (C := fun w' => Below W.heap.size W w') (by kernel_rfl) (by kernel_rfl) (by kernel_rfl) ((Below.refl _ _).drew) ?_
        show wpQuiet _ _ _ _ [_, _, _, _, _, _, _, _, _, _, _, _, _] _
        refine wpQuiet_step (fun K hK => ?_)
        go_simp
        refine ⟨_, fun w' hw' => rfl, hK _ ?_⟩
        clear hK K
        refine wpQuiet_step (fun K hK => ?_)
        go_simp
        refine ⟨_, fun w' hw' => rfl, hK _ ?_⟩
        clear hK K
        refine wpQuiet_step (fun K hK => ?_)
        go_simp
        refine ⟨_, fun w' hw' => rfl, hK _ ?_⟩
        clear hK K
        refine wpQuiet_step (fun K hK => ?_)
        go_simp
        apply Exists.intro
        refine And.intro (fun w' hw' => ?_) (hK _ ?_)
        · obtain ⟨hc', hf'⟩ := bcell hw'
          go_simp
          first | rfl | exact ⟨rfl, rfl⟩ | exact ⟨rfl⟩
        clear hK K
        refine wpQuiet_step (fun K hK => ?_)
        go_simp
        refine ⟨_, fun w' hw' => rfl, hK _ ?_⟩
        clear hK K
        refine wpQuiet_step (fun K hK => ?_)
        go_simp
        refine ⟨_, fun w' hw' => rfl, hK _ ?_⟩
        clear hK K
        refine wpQuiet_step (fun K hK => ?_)
        go_simp
        refine ⟨_, fun w' hw' => rfl, hK _ ?_⟩
        clear hK K
        refine wpQuiet_step (fun K hK => ?_)
        go_simp
        refine ⟨_, fun w' hw' => rfl, hK _ ?_⟩
        clear hK K
        refine wpQuiet_step (fun K hK => ?_)
        go_simp
        refine ⟨_, fun w' hw' => rfl, hK _ ?_⟩
        clear hK K
        refine wpQuiet_step (fun K hK => ?_)
        go_simp
        apply Exists.intro
        refine And.intro (fun w' hw' => ?_) (hK _ ?_)
        · obtain ⟨hc', hf'⟩ := bcell hw'
          go_simp
          first | rfl | exact ⟨rfl, rfl⟩ | exact ⟨rfl⟩
        clear hK K
        refine wpQuiet_step (fun K hK => ?_)
        go_simp
        apply Exists.intro
        refine And.intro (fun w' hw' => ?_) (hK _ ?_)
        · obtain ⟨hc', hf'⟩ := bcell hw'
          go_simp
          first | rfl | exact ⟨rfl, rfl⟩ | exact ⟨rfl⟩
        clear hK K
        refine wpQuiet_step (fun K hK => ?_)
        go_simp
        refine ⟨.bool false, fun w' hw' => ?_, hK _ ?_⟩
        · by_cases q1 : kv.kind = v.kind <;> by_cases q2 : kv.num = v.num <;> by_cases q3 : FloatKind.f64.format.order kv.flt v.flt = some Ordering.eq <;> by_cases q4 : kv.str.toList = v.str.toList <;> by_cases q5 : kv.ref = v.ref <;> simp_all
        clear hK K
        refine wpQuiet_step (fun K hK => ?_)
        go_simp
        refine ⟨_, fun w' hw' => rfl, hK _ ?_⟩
        clear hK K
        refine wpQuiet_nil ?_
        intro w2 hw2
        have HK := hide (keeps_of_below hw2)
        have HB2 := hide hw2
        have g0 := (hw2.cell (p := ⟨w.heap.size, 0, none⟩) z0).trans g0
        have e0 := (hw2.cell (p := ⟨w.heap.size + 1, 0, none⟩) z1).trans e0
        have e1 := (hw2.cell (p := ⟨w.heap.size + 1, 1, none⟩) z1).trans e1
        have e2 := (hw2.cell (p := ⟨w.heap.size + 1, 2, none⟩) z1).trans e2
        have e3 := (hw2.cell (p := ⟨w.heap.size + 1, 3, none⟩) z1).trans e3
        have e4 := (hw2.cell (p := ⟨w.heap.size + 1, 4, none⟩) z1).trans e4
        have s0 := (hw2.cell (p := ⟨w.heap.size + 1 + 1, 0, none⟩) z2).trans s0
        have s1 := (hw2.frozen (p := ⟨w.heap.size + 1 + 1, 0, none⟩) z2).trans s1
        clear hw2
        gi_wp2
        exact ⟨unhide HK, (unhide HB2).mono (unhide HBW).size, ⟨fun y hy => (List.mem_append.1 hy).elim (unhide HP y) (fun e => by simp at e; subst e; exact unhide HS), g0, e0, e1, e2, e3, e4, s0, s1⟩, (unhide HBW).trans ((unhide HB2).mono (unhide HBW).size)⟩
      · have hst : Stop d v a := .inr ⟨hsp, by rw [hkv]; exact hlk⟩
        have HS := hide hst
        have HX : Hid (slotI (if d.X a = 0 then none else some a) = (a : Int)) := hide (by rw [if_neg (by omega)]; rfl)
        have hl' : (kv.kind == v.kind && (kv.num == v.num && ((FloatKind.f64.format.order kv.flt v.flt == some .eq) && (kv.str.toList == v.str.toList && kv.ref == v.ref)))) = true := hlk
        clear hsl hs hst hsp hkv
        gi_wp2
        refine wpIn_region_quiet (C := fun w' => Below W.heap.size W w') (by kernel_rfl) (by kernel_rfl) (by kernel_rfl) ((Below.refl _ _).drew) ?_
        show wpQuiet _ _ _ _ [_, _, _, _, _, _, _, _, _, _, _, _, _] _
        refine wpQuiet_step (fun K hK => ?_)
        go_simp
        refine ⟨_, fun w' hw' => rfl, hK _ ?_⟩
        clear hK K
        refine wpQuiet_step (fun K hK => ?_)
        go_simp
        refine ⟨_, fun w' hw' => rfl, hK _ ?_⟩
        clear hK K
        refine wpQuiet_step (fun K hK => ?_)
        go_simp
        refine ⟨_, fun w' hw' => rfl, hK _ ?_⟩
        clear hK K
        refine wpQuiet_step (fun K hK => ?_)
        go_simp
        apply Exists.intro
        refine And.intro (fun w' hw' => ?_) (hK _ ?_)
        · obtain ⟨hc', hf'⟩ := bcell hw'
          go_simp
          first | rfl | exact ⟨rfl, rfl⟩ | exact ⟨rfl⟩
        clear hK K
        refine wpQuiet_step (fun K hK => ?_)
        go_simp
        refine ⟨_, fun w' hw' => rfl, hK _ ?_⟩
        clear hK K
        refine wpQuiet_step (fun K hK => ?_)
        go_simp
        refine ⟨_, fun w' hw' => rfl, hK _ ?_⟩
        clear hK K
        refine wpQuiet_step (fun K hK => ?_)
        go_simp
        refine ⟨_, fun w' hw' => rfl, hK _ ?_⟩
        clear hK K
        refine wpQuiet_step (fun K hK => ?_)
        go_simp
        refine ⟨_, fun w' hw' => rfl, hK _ ?_⟩
        clear hK K
        refine wpQuiet_step (fun K hK => ?_)
        go_simp
        refine ⟨_, fun w' hw' => rfl, hK _ ?_⟩
        clear hK K
        refine wpQuiet_step (fun K hK => ?_)
        go_simp
        apply Exists.intro
        refine And.intro (fun w' hw' => ?_) (hK _ ?_)
        · obtain ⟨hc', hf'⟩ := bcell hw'
          go_simp
          first | rfl | exact ⟨rfl, rfl⟩ | exact ⟨rfl⟩
        clear hK K
        refine wpQuiet_step (fun K hK => ?_)
        go_simp
        apply Exists.intro
        refine And.intro (fun w' hw' => ?_) (hK _ ?_)
        · obtain ⟨hc', hf'⟩ := bcell hw'
          go_simp
          first | rfl | exact ⟨rfl, rfl⟩ | exact ⟨rfl⟩
        clear hK K
        refine wpQuiet_step (fun K hK => ?_)
        go_simp
        refine ⟨.bool true, fun w' hw' => ?_, hK _ ?_⟩
        · by_cases q1 : kv.kind = v.kind <;> by_cases q2 : kv.num = v.num <;> by_cases q3 : FloatKind.f64.format.order kv.flt v.flt = some Ordering.eq <;> by_cases q4 : kv.str.toList = v.str.toList <;> by_cases q5 : kv.ref = v.ref <;> simp_all
        clear hK K
        refine wpQuiet_step (fun K hK => ?_)
        go_simp
        refine ⟨_, fun w' hw' => rfl, hK _ ?_⟩
        clear hK K
        refine wpQuiet_nil ?_
        intro w2 hw2
        have HK := hide (keeps_of_below hw2)
        have HB2 := hide hw2
        have g0 := (hw2.cell (p := ⟨w.heap.size, 0, none⟩) z0).trans g0
        have e0 := (hw2.cell (p := ⟨w.heap.size + 1, 0, none⟩) z1).trans e0
        have e1 := (hw2.cell (p := ⟨w.heap.size + 1, 1, none⟩) z1).trans e1
        have e2 := (hw2.cell (p := ⟨w.heap.size + 1, 2, none⟩) z1).trans e2
        have e3 := (hw2.cell (p := ⟨w.heap.size + 1, 3, none⟩) z1).trans e3
        have e4 := (hw2.cell (p := ⟨w.heap.size + 1, 4, none⟩) z1).trans e4
        have s0 := (hw2.cell (p := ⟨w.heap.size + 1 + 1, 0, none⟩) z2).trans s0
        have s1 := (hw2.frozen (p := ⟨w.heap.size + 1 + 1, 0, none⟩) z2).trans s1
        clear hw2
        gi_wp2
        exact ⟨(unhide HK).trans (KeepsOthers.setCell _ _ _), ⟨rfl, pre, ⟨a, ha⟩, rfl, unhide HP, unhide HS, by rw [unhide HX]; exact World.cell?_setCell_same' _ _ _ (by rw [s0]; rfl)⟩, ((unhide HBW).trans ((unhide HB2).mono (unhide HBW).size)).setCell (p := ⟨w.heap.size + 1 + 1, 0, none⟩) (by show w.heap.size ≤ w.heap.size + 1 + 1; omega) _⟩
  case done =>
    rintro D ys W hD hsq ⟨⟨hp, _, _, _, _, _, _, hcr, hfr⟩, hBW⟩ hK
    have HR : Hid (slotOf d v h = none) := hide (by
      rw [slotOf_findL, ← show ys.map (·.1) = seqL d.x (h % d.x) d.x from hsq]
      exact findL_none (fun a ha => by obtain ⟨y, hy, rfl⟩ := List.mem_map.1 ha; exact hp y hy))
    clear hsq hp hh hB hBu
    gi_wp2
    have hK' := (KeepsOthers.setCell W ⟨w.heap.size + 1 + 1, 0, none⟩ (.int .i64 (-1))).same D _ hK rfl
    refine ⟨by simp, .inl ⟨_, _, rfl, run_takeDeferred hK', ?_⟩⟩
    have hc5 := cell_kept (World.cell?_setCell_same' W ⟨w.heap.size + 1 + 1, 0, none⟩ (.int .i64 (-1)) (by rw [hcr]; rfl)) (grownBy_putObj' _ D (.deferred none)) (fun r e => by cases e; exact ⟨_, hK', rfl⟩)
    refine ⟨.int .i64 (-1), ?_, by rw [unhide HR]; rfl, (hBW.setCell (p := ⟨w.heap.size + 1 + 1, 0, none⟩) (by show w.heap.size ≤ w.heap.size + 1 + 1; omega) _).trans (belowK_b (w := w) (Nat.le_refl _) _ D _ _ (by omega) hK' rfl rfl)⟩
    simp [results, Tryz.f139, go_sem, hc5]
  case stop =>
    rintro D c pre W hD hpre ⟨⟨rfl, pre', a, rfl, h1, h2, hcr⟩, hBW⟩ hK
    have HR : Hid (slotOf d v h = if d.X a.1 = 0 then none else some a.1) := hide (by
      rw [slotOf_findL]
      have hp : (pre' ++ [a]).map (·.1) <+: seqL d.x (h % d.x) d.x := hpre
      rw [List.map_append] at hp
      exact findL_stop (fun b hb => by obtain ⟨y, hy, rfl⟩ := List.mem_map.1 hb; exact h1 y hy) hp h2)
    clear hpre h1 h2 hh hB hBu
    gi_wp2
    refine ⟨by simp, .inl ⟨_, _, rfl, run_takeDeferred hK, ?_⟩⟩
    have hc5 := cell_kept hcr (grownBy_putObj' _ D (.deferred none)) (fun r e => by cases e; exact ⟨_, hK, rfl⟩)
    refine ⟨.int .i64 (slotI (if d.X a.1 = 0 then none else some a.1)), ?_, by rw [unhide HR], hBW.trans (belowK_b (w := w) (Nat.le_refl _) W D _ _ (by omega) hK rfl rfl)⟩
    simp [results, Tryz.f139, go_sem, hc5]
end Go.Proofs.YtfceeijdmilieaaGreat
namespace Go.Proofs.YtfceeijdmilieaaGreat
open Go.RowKit Go.Shelf
set_option linter.unusedVariables false
attribute [local go_sem] run_store_float run_equalIn_float Oper.semAt_some

/-- The entry at a place: none below 0. -/
def placeP (E : Nat → Nat) (p : Int) : Option Addr := if 0 ≤ p then some ⟨E p.toNat, 0, none⟩ else none

theorem place_range {d : Dc} (h3 : D3 d) (h4 : D4 d) (v : Vl) (h : Nat) : -1 ≤ placeI d v h ∧ placeI d v h < d.n := by
  unfold placeI
  by_cases hs : smallK d.m v
  · rw [if_pos hs]
    have := hs.2.1
    have := hs.2.2
    rcases h3.1 (v.num - 1).toNat (by omega) with hh | hh <;> omega
  · rw [if_neg hs]
    cases e : slotOf d v h with
    | none => exact ⟨by show (-1 : Int) ≤ -1; omega, by show (-1 : Int) < _; omega⟩
    | some s =>
      obtain ⟨h1, h2⟩ := slotOf_lt e
      show -1 ≤ d.X s - 1 ∧ d.X s - 1 < d.n
      rcases h4.2.1 s h1 with hh | hh | hh <;> omega

set_option maxRecDepth 100000 in
set_option maxHeartbeats 2000000 in
theorem bfind_any (T : World → Prop) (hTl : Lasts T) (bk R0 R1 R2 : Nat) (E S : Nat → Nat) (d : Dc) (v : Vl) (h : Nat) (hh : HsI T v h) (w : World) (hT : T w) (hB : Book w bk R0 R1 R2 E S d) (hS : Small d) (h3 : D3 d) (h4 : D4 d) :
    Calls Tryz.prog 133 #[.pointer (some ⟨bk, 0, none⟩), V v.kind v.num v.flt v.str v.ref] w fun e w' => e = .returned (.pointer (placeP E (placeI d v h))) ∧ Below w.heap.size w w' := by
  have hm := hS.m
  have hx := hS.x
  have hn := hS.n
  obtain ⟨W, hW⟩ : ∃ W, W = w.alloc (.cells #[.int .i64 v.kind, .int .i64 v.num, .float .f64 v.flt, .string v.str, .int .i64 v.ref] 85) := ⟨_, rfl⟩
  have hb0 : Below w.heap.size w W := by rw [hW]; exact (Below.refl _ _).alloc (Nat.le_refl _) _
  have hBk := hB.below hb0
  obtain ⟨k1, c1⟩ := hBk.c1
  have lb := hBk.lt
  have l1 := hBk.l1
  have hzW : w.heap.size < W.heap.size := by rw [hW]; simp
  have q0 : W.cell? ⟨w.heap.size, 0, none⟩ = some (.int .i64 v.kind) := by rw [hW]; simp [go_sem]
  have q1 : W.cell? ⟨w.heap.size, 1, none⟩ = some (.int .i64 v.num) := by rw [hW]; simp [go_sem]
  have q2 : W.cell? ⟨w.heap.size, 2, none⟩ = some (.float .f64 v.flt) := by rw [hW]; simp [go_sem]
  have q3 : W.cell? ⟨w.heap.size, 3, none⟩ = some (.string v.str) := by rw [hW]; simp [go_sem]
  have q4 : W.cell? ⟨w.heap.size, 4, none⟩ = some (.int .i64 v.ref) := by rw [hW]; simp [go_sem]
  have HB0 := hide hb0
  have HBk := hide hBk
  have HT := hide (hTl _ _ hT hb0)
  have HTl := hide hTl
  have HH := hide hh
  have HS := hide hS
  have H3 := hide h3
  have H4 := hide h4
  clear hb0 hBk hT hh hS h3 h4 hB hTl
  go_enter Tryz.func133, Tryz.ntmps133
  go_wp2_with fail
  rw [← hW]
  clear hW
  by_cases hs : smallK d.m v
  · have HSM := hide (tells_yes hs)
    obtain ⟨k1, k2, k3⟩ := hs
    obtain ⟨q, hq⟩ : ∃ q : Nat, v.num = (q : Int) + 1 := ⟨(v.num - 1).toNat, by omega⟩
    have hqm : q < d.m := by omega
    have HR : Hid (placeI d v h = d.I q - 1) := hide (by unfold placeI; rw [if_pos ⟨k1, k2, k3⟩, hq]; congr 2; omega)
    have p0 := (unhide HBk).r1 q hqm
    have hI : entP E (d.I q) = placeP E (d.I q - 1) := by
      unfold entP placeP
      by_cases e : 0 < d.I q
      · rw [if_pos e, if_pos (by omega)]
      · rw [if_neg e, if_neg (by omega)]
    rw [hI] at p0
    have hwq : IntKind.i64.wrap (q : Int) = q := by rw [IntKind.wrap_i64]; omega
    have HQ := hide hq
    clear k1 k2 k3 hI hq
    refine wp_region_quiet (C := fun w' => Below W.heap.size W w') (by kernel_rfl) (by kernel_rfl) ((Below.refl _ _).drew) ?_
    show wpQuiet _ _ _ _ [_, _, _, _, _, _, _] _
    refine wpQuiet_step (fun K hK => ?_)
    go_simp
    apply Exists.intro
    refine And.intro (fun w' hw' => ?_) (hK _ ?_)
    · obtain ⟨hc', hf'⟩ := bcell hw'
      go_simp
      first | rfl | exact ⟨rfl, rfl⟩ | exact ⟨rfl⟩
    clear hK K
    refine wpQuiet_step (fun K hK => ?_)
    go_simp
    refine ⟨_, fun w' hw' => rfl, hK _ ?_⟩
    clear hK K
    refine wpQuiet_step (fun K hK => ?_)
    go_simp
    refine ⟨_, fun w' hw' => rfl, hK _ ?_⟩
    clear hK K
    refine wpQuiet_step (fun K hK => ?_)
    go_simp
    refine ⟨_, fun w' hw' => rfl, hK _ ?_⟩
    clear hK K
    refine wpQuiet_step (fun K hK => ?_)
    go_simp
    apply Exists.intro
    refine And.intro (fun w' hw' => ?_) (hK _ ?_)
    · obtain ⟨hc', hf'⟩ := bcell hw'
      go_simp
      first | rfl | exact ⟨rfl, rfl⟩ | exact ⟨rfl⟩
    clear hK K
    refine wpQuiet_step (fun K hK => ?_)
    go_simp
    refine ⟨_, fun w' hw' => rfl, hK _ ?_⟩
    clear hK K
    refine wpQuiet_step (fun K hK => ?_)
    go_simp
    apply Exists.intro
    refine And.intro (fun w' hw' => ?_) (hK _ ?_)
    · refine (((unhide HSM) ▸ hasPlace_any v d.m _ hm)).mono ?_
      rintro e w'' ⟨rfl, hb⟩
      exact ⟨rfl, hw'.trans (hb.mono hw'.size)⟩
    clear hK K
    refine wpQuiet_nil ?_
    intro w2 hw2
    have c1' := (hw2.cell (p := ⟨bk, 1, none⟩) lb).trans c1
    have p0' := (hw2.cell (p := ⟨R1, q, none⟩) l1).trans p0
    have q1' := (hw2.cell (p := ⟨w.heap.size, 1, none⟩) hzW).trans q1
    rw [unhide HQ] at q1'
    have lb' := Nat.lt_of_lt_of_le lb hw2.size
    have l1' := Nat.lt_of_lt_of_le l1 hw2.size
    have hz2 := Nat.lt_of_lt_of_le hzW hw2.size
    have HB2 := hide ((unhide HB0).trans (hw2.mono (unhide HB0).size))
    clear hw2 c1 p0 q0 q1 q2 q3 q4
    go_wp2_with fail
    go_quiet (fail)
    go_wp2
    go_ret
    exact ⟨by rw [unhide HR]; rfl, below_drewN' (unhide HB2) _⟩
  · have HSM := hide (tells_no hs)
    have HR : Hid (placeI d v h = slotP d (slotOf d v h)) := hide (by unfold placeI; rw [if_neg hs])
    clear hs
    refine wp_region_quiet (C := fun w' => Below W.heap.size W w') (by kernel_rfl) (by kernel_rfl) ((Below.refl _ _).drew) ?_
    show wpQuiet _ _ _ _ [_, _, _, _, _, _, _] _
    refine wpQuiet_step (fun K hK => ?_)
    go_simp
    apply Exists.intro
    refine And.intro (fun w' hw' => ?_) (hK _ ?_)
    · obtain ⟨hc', hf'⟩ := bcell hw'
      go_simp
      first | rfl | exact ⟨rfl, rfl⟩ | exact ⟨rfl⟩
    clear hK K
    refine wpQuiet_step (fun K hK => ?_)
    go_simp
    refine ⟨_, fun w' hw' => rfl, hK _ ?_⟩
    clear hK K
    refine wpQuiet_step (fun K hK => ?_)
    go_simp
    refine ⟨_, fun w' hw' => rfl, hK _ ?_⟩
    clear hK K
    refine wpQuiet_step (fun K hK => ?_)
    go_simp
    refine ⟨_, fun w' hw' => rfl, hK _ ?_⟩
    clear hK K
    refine wpQuiet_step (fun K hK => ?_)
    go_simp
    apply Exists.intro
    refine And.intro (fun w' hw' => ?_) (hK _ ?_)
    · obtain ⟨hc', hf'⟩ := bcell hw'
      go_simp
      first | rfl | exact ⟨rfl, rfl⟩ | exact ⟨rfl⟩
    clear hK K
    refine wpQuiet_step (fun K hK => ?_)
    go_simp
    refine ⟨_, fun w' hw' => rfl, hK _ ?_⟩
    clear hK K
    refine wpQuiet_step (fun K hK => ?_)
    go_simp
    apply Exists.intro
    refine And.intro (fun w' hw' => ?_) (hK _ ?_)
    · refine (((unhide HSM) ▸ hasPlace_any v d.m _ hm)).mono ?_
      rintro e w'' ⟨rfl, hb⟩
      exact ⟨rfl, hw'.trans (hb.mono hw'.size)⟩
    clear hK K
    refine wpQuiet_nil ?_
    intro w2 hw2
    have q0' := (hw2.cell (p := ⟨w.heap.size, 0, none⟩) hzW).trans q0
    have q1' := (hw2.cell (p := ⟨w.heap.size, 1, none⟩) hzW).trans q1
    have q2' := (hw2.cell (p := ⟨w.heap.size, 2, none⟩) hzW).trans q2
    have q3' := (hw2.cell (p := ⟨w.heap.size, 3, none⟩) hzW).trans q3
    have q4' := (hw2.cell (p := ⟨w.heap.size, 4, none⟩) hzW).trans q4
    have hz2 := Nat.lt_of_lt_of_le hzW hw2.size
    have lb' := Nat.lt_of_lt_of_le lb hw2.size
    have HB2 := hide ((unhide HB0).trans (hw2.mono (unhide HB0).size))
    have HBk2 := hide ((unhide HBk).below hw2)
    have HT2 := hide (unhide HTl _ _ (unhide HT) hw2)
    clear hw2 q0 q1 q2 q3 q4 c1
    go_wp2_with fail
    refine wp_region_quiet (C := fun w' => Below w2.heap.size w2 w') (by kernel_rfl) (by kernel_rfl) ((Below.refl _ _).drew) ?_
    show wpQuiet _ _ _ _ [_, _, _, _, _, _] _
    refine wpQuiet_step (fun K hK => ?_)
    go_simp
    refine ⟨_, fun w' hw' => rfl, hK _ ?_⟩
    clear hK K
    refine wpQuiet_step (fun K hK => ?_)
    go_simp
    refine ⟨_, fun w' hw' => rfl, hK _ ?_⟩
    clear hK K
    refine wpQuiet_step (fun K hK => ?_)
    go_simp
    refine ⟨_, fun w' hw' => rfl, hK _ ?_⟩
    clear hK K
    refine wpQuiet_step (fun K hK => ?_)
    go_simp
    apply Exists.intro
    refine And.intro (fun w' hw' => ?_) (hK _ ?_)
    · obtain ⟨hc', hf'⟩ := bcell hw'
      go_simp
      first | rfl | exact ⟨rfl, rfl⟩ | exact ⟨rfl⟩
    clear hK K
    refine wpQuiet_step (fun K hK => ?_)
    go_simp
    apply Exists.intro
    refine And.intro (fun w' hw' => ?_) (hK _ ?_)
    · refine ((find_any T (unhide HTl) bk R0 R1 R2 E S d v h (unhide HH) _ (unhide HTl _ _ (unhide HT2) hw') ((unhide HBk2).below hw') (unhide HS) (unhide H4))).mono ?_
      rintro e w'' ⟨rfl, hb⟩
      exact ⟨rfl, hw'.trans (hb.mono hw'.size)⟩
    clear hK K
    refine wpQuiet_step (fun K hK => ?_)
    go_simp
    refine ⟨_, fun w' hw' => rfl, hK _ ?_⟩
    clear hK K
    refine wpQuiet_nil ?_
    intro w3 hw3
    have HB3 := hide ((unhide HB2).trans (hw3.mono (unhide HB2).size))
    have hBk3 := (unhide HBk2).below hw3
    have c3 := hBk3.c3
    have lb3 := hBk3.lt
    have HBk3 := hide hBk3
    clear hw3 hBk3 q0' q1' q2' q3' q4' lb'
    cases hsl : slotOf d v h with
    | none =>
      have HR' : Hid (placeP E (placeI d v h) = none) := hide (by rw [unhide HR, hsl]; rfl)
      simp only [slotI]
      go_wp2
      go_ret
      exact ⟨by rw [unhide HR']; rfl, unhide HB3⟩
    | some s =>
      obtain ⟨hsx, hsp⟩ := slotOf_lt hsl
      have hsc := ((unhide HBk3).sl s hsx).1 hsp
      have p0 := (unhide HBk3).r2 s hsx
      rw [show sltP S s (d.X s) = some ⟨S s, 0, none⟩ from if_neg (by omega)] at p0
      have p1 := hsc.pt
      have ls := hsc.lt
      have HR' : Hid (placeP E (placeI d v h) = some ⟨E (d.X s - 1).toNat, 0, none⟩) := hide (by
        rw [unhide HR, hsl]
        show (if 0 ≤ d.X s - 1 then _ else _) = _
        rw [if_pos (by omega)]
        rfl)
      simp only [slotI]
      obtain ⟨q, hq⟩ : ∃ q, q = (d.X s - 1).toNat := ⟨_, rfl⟩
      rw [← hq] at p1 HR'
      clear hsl hsp hsc hq
      go_wp2
      go_ret
      exact ⟨by rw [unhide HR']; rfl, unhide HB3⟩

end Go.Proofs.YtfceeijdmilieaaGreat
namespace Go.Proofs.YtfceeijdmilieaaGreat
open Go.RowKit Go.Shelf
set_option linter.unusedVariables false
attribute [local go_sem] run_store_float run_equalIn_float Oper.semAt_some

/-- The living entries. -/
abbrev Liv (d : Dc) : Type := {i : Nat // i < d.n ∧ (d.L i).turn ≠ 0}
def livL (d : Dc) (k : Nat) : List Nat := (List.range k).filter (fun i => (d.L i).turn != 0)
def LvAll (d : Dc) (xs : List (Liv d)) : Prop := xs.map (·.1) = livL d d.n
def LvPre (d : Dc) (xs : List (Liv d)) : Prop := xs.map (·.1) <+: livL d d.n
def LvTo (d : Dc) (k : Nat) (xs : List (Liv d)) : Prop := xs.map (·.1) = livL d k
theorem livL_dead {d : Dc} {k : Nat} (h : (d.L k).turn = 0) : livL d (k + 1) = livL d k := by
  unfold livL
  rw [List.range_succ, List.filter_append]
  simp [h]
theorem livL_live {d : Dc} {k : Nat} (h : (d.L k).turn ≠ 0) : livL d (k + 1) = livL d k ++ [k] := by
  unfold livL
  rw [List.range_succ, List.filter_append]
  simp [h]
theorem livL_le (d : Dc) (k : Nat) : (livL d k).length ≤ k := by
  unfold livL
  have := List.length_filter_le (fun i => (d.L i).turn != 0) (List.range k)
  simpa using this
theorem livL_prefix {d : Dc} {k n : Nat} (h : k ≤ n) : livL d k <+: livL d n := by
  obtain ⟨j, rfl⟩ : ∃ j, n = k + j := ⟨n - k, by omega⟩
  induction j with
  | zero => exact List.prefix_refl _
  | succ j ih =>
    refine (ih (by omega)).trans ?_
    by_cases e : (d.L (k + j)).turn = 0
    · rw [show k + (j + 1) = k + j + 1 by omega, livL_dead e]; exact List.prefix_refl _
    · rw [show k + (j + 1) = k + j + 1 by omega, livL_live e]; exact List.prefix_append _ _
theorem LvTo.pre {d : Dc} {k : Nat} {xs : List (Liv d)} (h : LvTo d k xs) (hk : k ≤ d.n) : LvPre d xs := by
  unfold LvTo at h
  unfold LvPre
  rw [h]
  exact livL_prefix hk
theorem mem_livL {d : Dc} {k i : Nat} : i ∈ livL d k ↔ i < k ∧ (d.L i).turn ≠ 0 := by
  unfold livL
  simp [List.mem_filter]

set_option maxHeartbeats 1000000 in
theorem living_any (bk : Nat) (w : World) :
    Calls Tryz.prog 132 #[.pointer (some ⟨bk, 0, none⟩)] w fun e w' => e = .returned (.func (.func 138) #[] #[.pointer (some ⟨w.heap.size, 0, none⟩)]) ∧ w' = w.alloc (.cells #[.pointer (some ⟨bk, 0, none⟩)] 194) := by
  go_enter Tryz.func132, Tryz.ntmps132
  go_wp2
  go_ret
  exact ⟨rfl, rfl⟩

set_option maxRecDepth 100000 in
set_option maxHeartbeats 2000000 in
theorem living_stops (n : Nat) (hn : 1 ≤ n) (bk R0 R1 R2 mb n0 : Nat) (E S : Nat → Nat) (d : Dc) (w : World) (hB : Book w bk R0 R1 R2 E S d) (hS : Small d) (hR : R0 < n0) (hE : ∀ i, i < d.n → E i < n0)
    (m0 : w.cell? ⟨mb, 0, none⟩ = some (.pointer (some ⟨bk, 0, none⟩))) :
    SeqStopsK Fence.wide n Tryz.prog 138 #[.pointer (some ⟨mb, 0, none⟩)] (fun a : Liv d => #[.pointer (some ⟨E a.1, 0, none⟩)]) (Below n0)
      (LvAll d) (LvPre d) d.n w := fun l J Jx W hW hJ hJx hY h0 => by
  have lm := World.block_lt_of_cell? _ _ m0
  have m0 := (hW.cell (p := ⟨mb, 0, none⟩) lm).trans m0
  have hBk := hB.below hW
  obtain ⟨a0, k0, c0, ha0⟩ := hBk.c0
  have HA0 := hide ha0
  clear ha0
  have lb := hBk.lt
  have hnn := hS.n
  have HY := hide hY
  have H0 := hide h0
  have HBk := hide hBk
  have HE := hide hE
  clear hJx hJ hY hW h0 hBk hB hS hE
  refine callsIn_of_wp Tryz.func138 rfl trivial ?_ rfl
  simp only [Tryz.ntmps138, List.size_toArray, List.length_cons, List.length_nil, Nat.reduceAdd, Nat.reduceSub, Array.replicate_succ, Array.replicate_zero, List.push_toArray, List.append_toArray, List.nil_append, List.cons_append]
  gi_wp2
  gi_loopw [10] (fun i wr => ∃ (k : Nat) (pre : List (Liv d)), k ≤ d.n ∧ i = .int .i64 (k : Int) ∧ LvTo d k pre ∧ J pre wr ∧ Below n0 W wr) (fun i _ => d.n - (intOf i).toNat)
  case atStart => exact ⟨0, [], by omega, rfl, rfl, unhide H0, Below.refl _ _⟩
  case round =>
    obtain ⟨k, pre, hk, rfl, hlv, hJp, hbw⟩ := hrel
    by_cases hkn : k < d.n
    · obtain rfl := unhide HA0 (by omega)
      have p0 := (hbw.cell (p := ⟨R0, k, none⟩) hR).trans ((unhide HBk).r0 k hkn)
      have t0 := (hbw.cell (p := ⟨E k, 10, none⟩) (unhide HE k hkn)).trans ((unhide HBk).ent k hkn).tn
      have HLV := hide hlv
      have HBW := hide hbw
      clear hlv hbw
      by_cases ht : (d.L k).turn = 0
      · have HN : Hid (LvTo d (k + 1) pre) := hide (by unfold LvTo; rw [livL_dead ht]; exact unhide HLV)
        rw [ht] at t0
        clear ht
        gi_wp2
        refine ⟨fun _ h => (by cases h), ?_⟩
        gi_wp2
        go_roundw
        case rel => exact ⟨k + 1, pre, by omega, by go_num, unhide HN, hJp, unhide HBW⟩
        case measure => simp [intOf]; omega
      · have ht' : ((d.L k).turn != 0) = true := by simp [ht]
        obtain ⟨fn, tmps, assign, body, hy, hRR⟩ := unhide HY pre ⟨k, hkn, ht⟩ wr hJp (by
          have h1 : (pre.map (·.1)).length = (livL d k).length := congrArg List.length (unhide HLV)
          rw [List.length_map] at h1
          have := livL_le d k
          omega)
        have HN : Hid (LvTo d (k + 1) (pre ++ [⟨k, hkn, ht⟩])) := hide (by
          unfold LvTo
          rw [livL_live ht, List.map_append, show pre.map (·.1) = livL d k from unhide HLV]
          rfl)
        have HR := hide hRR
        clear hRR hJp
        dsimp only at hy
        gi_wp2
        refine (unhide HR).mono ?_
        rintro e W3 (⟨rfl, hJ3, hk3⟩ | ⟨rfl, hJx3⟩)
        · clear HR hy
          gi_wp2
          go_roundw
          case rel => exact ⟨k + 1, _, by omega, by go_num, unhide HN, hJ3, (unhide HBW).trans hk3⟩
          case measure => simp [intOf]; omega
        · clear HR hy
          gi_wp2
          refine bodyPost_ret (results_none rfl _ _ _) rfl ?_
          exact ⟨⟨_, rfl⟩, .inr ⟨_, (unhide HN).pre (by omega), hJx3⟩⟩
    · have hkn' : k = d.n := by omega
      subst hkn'
      have HS := hide hlv
      clear hlv
      gi_wp2
      go_end0
      exact ⟨⟨_, rfl⟩, .inl ⟨pre, unhide HS, hJp⟩⟩
end Go.Proofs.YtfceeijdmilieaaGreat
