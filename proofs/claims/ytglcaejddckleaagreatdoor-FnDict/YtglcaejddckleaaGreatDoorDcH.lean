/-
  Dicts: the model's rule 5; DictOk of the model.
-/
import Derived.Test.YtglcaejddckleaaGreatDoorDcG
namespace Go.Proofs.YtglcaejddckleaaGreatDoor
open Go.RowKit
set_option linter.unusedVariables false
attribute [local go_sem] run_store_float run_equalIn_float

set_option maxHeartbeats 1000000 in
theorem l1place_any (c o : Nat) (la : Option Addr) (lc : Nat) (ia : Option Addr) (ic : Nat) (xa : Option Addr) (xc : Nat) (d : Dc) (v : Vl) (h : Nat) (w : World) (hD : DPtr w c o la lc ia ic xa xc d) (hS : Small d) (h3 : D3 d) (h4 : D4 d) (hh : HsS v h) :
    Calls Tryz.prog 80 #[Pc c o, V v.kind v.num v.flt v.str v.ref] w fun e w' => e = .returned (.int .i64 (placeI d v h)) ∧ Below w.heap.size w w' := by
  have HD := hide hD
  have HS := hide hS
  have H3 := hide h3
  have H4 := hide h4
  have HH := hide hh
  have hb0 : Below w.heap.size w (w.alloc (.cells #[.int .i64 v.kind, .int .i64 v.num, .float .f64 v.flt, .string v.str, .int .i64 v.ref] 30)) := (Below.refl _ _).alloc (Nat.le_refl _) _
  have HB0 := hide hb0
  clear hD hS h3 h4 hh hb0
  go_enter Tryz.func80, Tryz.ntmps80
  go_wp2_with fail
  refine (l1small_any c o la lc ia ic xa xc d v _ ((unhide HD).below (unhide HB0)) (unhide HS)).mono ?_
  rintro e w1 ⟨rfl, hb1⟩
  obtain ⟨hc1, hf1⟩ := bcell hb1
  have q0 : w1.cell? ⟨w.heap.size, 0, none⟩ = some (.int .i64 v.kind) := by rw [hc1 _ _ (by simp)]; simp [go_sem]
  have q1 : w1.cell? ⟨w.heap.size, 1, none⟩ = some (.int .i64 v.num) := by rw [hc1 _ _ (by simp)]; simp [go_sem]
  have q2 : w1.cell? ⟨w.heap.size, 2, none⟩ = some (.float .f64 v.flt) := by rw [hc1 _ _ (by simp)]; simp [go_sem]
  have q3 : w1.cell? ⟨w.heap.size, 3, none⟩ = some (.string v.str) := by rw [hc1 _ _ (by simp)]; simp [go_sem]
  have q4 : w1.cell? ⟨w.heap.size, 4, none⟩ = some (.int .i64 v.ref) := by rw [hc1 _ _ (by simp)]; simp [go_sem]
  have hz1 : w.heap.size < w1.heap.size := by have := hb1.size; simp at this; omega
  have HB1 := hide ((unhide HB0).trans (hb1.mono (unhide HB0).size))
  clear hb1 hc1 hf1
  by_cases hs : smallK d.m v
  · rw [tells_yes hs]
    obtain ⟨k1, k2, k3⟩ := hs
    obtain ⟨q, hq⟩ : ∃ q : Nat, v.num = (q : Int) + 1 := ⟨(v.num - 1).toNat, by omega⟩
    have hqm : q < d.m := by omega
    have HR : Hid (placeI d v h = d.I q - 1) := hide (by unfold placeI; rw [if_pos ⟨k1, k2, k3⟩, hq]; congr 2; omega)
    obtain ⟨b, off, rfl, hbl, hcs⟩ := (unhide HD).rows.ints.resolve_left (by omega)
    have e0 := ((unhide HB1).cell (p := ⟨b, off + q, none⟩) hbl).trans (hcs q hqm)
    have c1 := ((unhide HD).below (unhide HB1)).c1
    have hm := (unhide HS).m
    have hn := (unhide HS).n
    have hI : 0 ≤ d.I q ∧ d.I q ≤ d.n := by
      rcases (unhide H3).1 q hqm with hh | hh
      · omega
      · exact ⟨by omega, hh.2.1⟩
    have hwI : IntKind.i64.wrap (d.I q - 1) = d.I q - 1 := by rw [IntKind.wrap_i64]; omega
    have hwq : IntKind.i64.wrap (q : Int) = q := by rw [IntKind.wrap_i64]; omega
    have hbw : b < w1.heap.size := Nat.lt_of_lt_of_le hbl (unhide HB1).size
    have hcw : c < w1.heap.size := Nat.lt_of_lt_of_le (unhide HD).lt (unhide HB1).size
    rw [hq] at q1
    have HQ := hide hq
    clear hcs k1 k2 k3 hq hI
    go_wp2_with fail
    go_quiet (fail)
    go_wp2
    go_ret
    exact ⟨by rw [unhide HR]; simp, below_drewN' (unhide HB1) _⟩
  · rw [tells_no hs]
    have HR : Hid (placeI d v h = slotP d (slotOf d v h)) := hide (by unfold placeI; rw [if_neg hs])
    have HS0 := hide hs
    clear hs
    go_wp2_with fail
    refine (l1slot_any c o la lc ia ic xa xc d v h _ ((unhide HD).below (unhide HB1)) (unhide HS) (unhide H4) (unhide HH)).mono ?_
    rintro e w2 ⟨rfl, hb2⟩
    have HB2 := hide ((unhide HB1).trans (hb2.mono (unhide HB1).size))
    clear hb2
    cases hsl : slotOf d v h with
    | none =>
      have HR' : Hid (placeI d v h = -1) := hide ((unhide HR).trans (by rw [hsl]; rfl))
      simp only [slotI]
      go_wp2
      go_ret
      exact ⟨by rw [unhide HR']; rfl, unhide HB2⟩
    | some s =>
      have HR' : Hid (placeI d v h = d.X s - 1) := hide ((unhide HR).trans (by rw [hsl]; rfl))
      obtain ⟨hsx, hsp⟩ := slotOf_lt hsl
      simp only [slotI]
      obtain ⟨b, off, rfl, hbl, hcs⟩ := (unhide HD).rows.index.resolve_left (by omega)
      have e0 := ((unhide HB2).cell (p := ⟨b, off + s, none⟩) hbl).trans (hcs s hsx)
      have c2 := ((unhide HD).below (unhide HB2)).c2
      have hx := (unhide HS).x
      have hn := (unhide HS).n
      have hX : d.X s ≤ d.n := by
        rcases (unhide H4).2.1 s hsx with hh | hh | hh <;> omega
      have hwI : IntKind.i64.wrap (d.X s - 1) = d.X s - 1 := by rw [IntKind.wrap_i64]; omega
      clear hcs hsl hsp hX
      go_wp2
      go_ret
      exact ⟨by rw [unhide HR']; simp, unhide HB2⟩

def D5 (d : Dc) (H : Nat → Nat) : Prop := ∀ i, i < d.n → (d.L i).turn ≠ 0 → cnt d.I i d.m + cnt d.X i d.x = 1 ∧ placeI d (d.L i).key (H i) = i ∧ ¬ ((d.L i).key.kind = 2 ∧ (d.L i).key.num = (d.m : Int) + 1)
def ok5 (d : Dc) (H : Nat → Nat) (i : Nat) : Prop := (d.L i).turn ≠ 0 → cnt d.I i d.m + cnt d.X i d.x = 1 ∧ placeI d (d.L i).key (H i) = i ∧ ¬ ((d.L i).key.kind = 2 ∧ (d.L i).key.num = (d.m : Int) + 1)
theorem not_D5 {d : Dc} {H : Nat → Nat} {k : Nat} (hk : k < d.n) (h : ¬ ok5 d H k) : tells (D5 d H) = false := tells_no (fun h' => h (h' k hk))

theorem make_ints (n : Nat) (hn : n ≤ 4194304) (w : World) :
    (Instr.makeSlice 24 (.int .i64 (n : Int)) (.int .i64 (n : Int))).run Tryz.prog w = .ok (.slice (some ⟨w.heap.size, 0, none⟩) n n) (w.alloc (.cells (madeCells (Value.int .i64 0).cells n) 3)) := by
  obtain ⟨i, hi, hz, hs, hb⟩ := info_parts infoInt
  have := run_make (P := Tryz.prog) w 24 3 i _ Tryz.underlying24 hi hz .i64 .i64 n n (by omega) (Int.le_refl _) (by rw [hb]; omega) (by omega)
  simp only [Int.toNat_natCast, hs, Nat.mul_one] at this
  exact this
theorem made_zeros (w : World) (n : Nat) : (w.alloc (.cells (madeCells (Value.int .i64 0).cells n) 3)).rowIs w.heap.size 3 n (fun _ => .int .i64 0) := by
  have h := World.rowIs_alloc w (madeCells (Value.int .i64 0).cells n) 3 (fun _ => .int .i64 0) (fun i hi => by
    rw [size_madeCells] at hi
    unfold madeCells
    simp [Value.cells, hi, Nat.mod_one])
  rw [size_madeCells] at h
  exact h

theorem cnt_le (f : Nat → Int) (i k : Nat) : cnt f i k ≤ k := by
  induction k with
  | zero => exact Nat.le_refl _
  | succ k ih => unfold cnt; split <;> omega
/-- A row of counts. -/
def Counts (w : World) (b n : Nat) (g : Nat → Nat) : Prop := ∃ h, w.rowIs b 3 n h ∧ ∀ j, j < n → h j = .int .i64 (g j)
theorem Counts.cell {w : World} {b n : Nat} {g : Nat → Nat} (h : Counts w b n g) {j : Nat} (hj : j < n) : w.cell? ⟨b, j, none⟩ = some (.int .i64 (g j)) := by
  obtain ⟨h0, hr, hg⟩ := h
  rw [hr.cell hj, hg j hj]
theorem Counts.frozen {w : World} {b n : Nat} {g : Nat → Nat} (h : Counts w b n g) (j : Nat) : w.frozen? ⟨b, j, none⟩ = false := by
  obtain ⟨h0, hr, hg⟩ := h
  exact hr.frozen j
theorem Counts.lt {w : World} {b n : Nat} {g : Nat → Nat} (h : Counts w b n g) : b < w.heap.size := by
  obtain ⟨h0, hr, hg⟩ := h
  exact hr.lt
theorem Counts.below {w w' : World} {b n : Nat} {g : Nat → Nat} (h : Counts w b n g) (hb : Below w.heap.size w w') : Counts w' b n g := by
  obtain ⟨h0, hr, hg⟩ := h
  exact ⟨h0, hr.of_block (hb.block b hr.lt), hg⟩
theorem Counts.bump {w : World} {b n q : Nat} {g : Nat → Nat} (h : Counts w b n g) : Counts (w.setCell ⟨b, q, none⟩ (.int .i64 ((g q : Int) + 1))) b n (fun j => if j = q then g q + 1 else g j) := by
  obtain ⟨h0, hr, hg⟩ := h
  refine ⟨_, hr.set q _, fun j hj => ?_⟩
  by_cases e : j = q
  · subst e; simp
  · simp only [e, if_false]; exact hg j hj
theorem Counts.congr {w : World} {b n : Nat} {g g' : Nat → Nat} (h : Counts w b n g) (e : ∀ j, j < n → g' j = g j) : Counts w b n g' := by
  obtain ⟨h0, hr, hg⟩ := h
  exact ⟨h0, hr, fun j hj => by rw [e j hj]; exact hg j hj⟩

set_option maxRecDepth 100000 in
set_option maxHeartbeats 2000000 in
theorem l1found_any (c o : Nat) (la : Option Addr) (lc : Nat) (ia : Option Addr) (ic : Nat) (xa : Option Addr) (xc : Nat) (d : Dc) (H : Nat → Nat) (w : World) (hD : DPtr w c o la lc ia ic xa xc d) (hS : Small d) (h3 : D3 d) (h4 : D4 d) (hH : ∀ i, i < d.n → (d.L i).turn ≠ 0 → HsS (d.L i).key (H i)) :
    Calls Tryz.prog 76 #[Pc c o] w fun e w' => e = .returned (.bool (tells (D5 d H))) ∧ Below w.heap.size w w' := by
  have hn := hS.n
  have hm := hS.m
  have hx := hS.x
  have c0 := hD.c0
  have c1 := hD.c1
  have hlt := hD.lt
  have hmk := make_ints d.n hn
  have HC0 : Hid (Counts (w.alloc (.cells (madeCells (Value.int .i64 0).cells d.n) 3)) w.heap.size d.n (fun j => cnt d.I j 0)) := hide ⟨_, made_zeros w d.n, fun j hj => rfl⟩
  have HD := hide hD
  have HS := hide hS
  have H3 := hide h3
  have H4 := hide h4
  have HH := hide hH
  clear hD hS h3 h4 hH
  go_enter Tryz.func76, Tryz.ntmps76
  go_wp2
  clear c0 c1 hmk
  go_loopw [21] (fun i wr => ∃ k : Nat, k ≤ d.m ∧ i = .int .i64 k ∧ Counts wr w.heap.size d.n (fun j => cnt d.I j k) ∧ Below w.heap.size w wr) (fun i _ => d.m - (intOf i).toNat)
  case atStart => exact ⟨0, by omega, rfl, unhide HC0, (Below.refl _ _).alloc (Nat.le_refl _) _⟩
  case round =>
    clear HC0
    obtain ⟨k, hk, rfl, hct, hb⟩ := hrel
    by_cases hkn : k < d.m
    · obtain ⟨b, off, rfl, hbl, hcs⟩ := (unhide HD).rows.ints.resolve_left (by omega)
      have e0 := (hb.cell (p := ⟨b, off + k, none⟩) hbl).trans (hcs k hkn)
      have hsl := hct.lt
      have HB := hide hb
      rcases (unhide H3).1 k hkn with hz | hz
      · have HC : Hid (Counts wr w.heap.size d.n (fun j => cnt d.I j (k + 1))) := hide (hct.congr (fun j hj => by show (if _ then _ else _) = _; rw [if_neg (by omega)]))
        rw [hz] at e0
        clear hcs hb hct hz
        go_wp2
        go_roundw
        case rel => exact ⟨k + 1, by omega, by go_num, unhide HC, unhide HB⟩
        case measure => simp [intOf]; omega
      · obtain ⟨q, hq⟩ : ∃ q : Nat, d.I k = (q : Int) + 1 := ⟨(d.I k - 1).toNat, by omega⟩
        have hqn : q < d.n := by omega
        have r0 := hct.cell hqn
        have r1 := hct.frozen q
        have hcl := cnt_le d.I q k
        have HC : Hid (Counts (wr.setCell ⟨w.heap.size, q, none⟩ (.int .i64 ((cnt d.I q k : Int) + 1))) w.heap.size d.n (fun j => cnt d.I j (k + 1))) := hide (hct.bump.congr (fun j hj => by
          show (if d.I k = (j : Int) + 1 then _ else _) = (if j = q then _ else _)
          by_cases e : j = q
          · subst e; rw [if_pos hq, if_pos rfl]
          · rw [if_neg (by omega), if_neg e]))
        rw [hq] at e0
        clear hcs hb hct hz hq
        go_wp2
        go_roundw
        case rel => exact ⟨k + 1, by omega, by go_num, unhide HC, (unhide HB).setCell (by exact Nat.le_refl _) _⟩
        case measure => simp [intOf]; omega
    have hkn' : k = d.m := by omega
    subst hkn'
    have HC := hide hct
    have HB := hide hb
    have hD := (unhide HD).below hb
    have c2 := hD.c2
    have hcl := hD.lt
    clear hct hb hD hk hkn
    go_wp2
    clear c2
    go_loopw [40] (fun i wr => ∃ k : Nat, k ≤ d.x ∧ i = .int .i64 k ∧ Counts wr w.heap.size d.n (fun j => cnt d.I j d.m + cnt d.X j k) ∧ Below w.heap.size w wr) (fun i _ => d.x - (intOf i).toNat)
    case atStart => exact ⟨0, by omega, rfl, unhide HC, unhide HB⟩
    case round =>
      clear HC HB hcl
      obtain ⟨k, hk, rfl, hct, hb⟩ := hrel
      by_cases hkn : k < d.x
      · obtain ⟨b, off, rfl, hbl, hcs⟩ := (unhide HD).rows.index.resolve_left (by omega)
        have e0 := (hb.cell (p := ⟨b, off + k, none⟩) hbl).trans (hcs k hkn)
        have hsl := hct.lt
        have HB := hide hb
        by_cases hz : 0 < d.X k
        case neg =>
          have HC : Hid (Counts wr w.heap.size d.n (fun j => cnt d.I j d.m + cnt d.X j (k + 1))) := hide (hct.congr (fun j hj => by show _ + (if _ then _ else _) = _; rw [if_neg (by omega)]))
          have hz' : decide (0 < d.X k) = false := by simp; omega
          clear hcs hb hct
          go_wp2
          go_roundw
          case rel => exact ⟨k + 1, by omega, by go_num, unhide HC, unhide HB⟩
          case measure => simp [intOf]; omega
        · obtain ⟨q, hq⟩ : ∃ q : Nat, d.X k = (q : Int) + 1 := ⟨(d.X k - 1).toNat, by omega⟩
          have hqn : q < d.n := by rcases (unhide H4).2.1 k hkn with hh | hh | hh <;> omega
          have r0 := hct.cell hqn
          have r1 := hct.frozen q
          have hcl := cnt_le d.I q d.m
          have hcl2 := cnt_le d.X q k
          have HC : Hid (Counts (wr.setCell ⟨w.heap.size, q, none⟩ (.int .i64 (((cnt d.I q d.m + cnt d.X q k : Nat) : Int) + 1))) w.heap.size d.n (fun j => cnt d.I j d.m + cnt d.X j (k + 1))) := hide (hct.bump.congr (fun j hj => by
            show _ + (if d.X k = (j : Int) + 1 then _ else _) = (if j = q then _ else _)
            by_cases e : j = q
            · subst e; rw [if_pos hq, if_pos rfl]; omega
            · rw [if_neg (by omega), if_neg e]))
          generalize hcc : cnt d.I q d.m + cnt d.X q k = cc at r0 HC
          have hcb : cc ≤ 8388608 := by omega
          rw [hq] at e0
          clear hcs hb hct hz hq hcc hcl hcl2
          go_wp2
          go_roundw
          case rel => exact ⟨k + 1, by omega, by go_num, unhide HC, (unhide HB).setCell (by exact Nat.le_refl _) _⟩
          case measure => simp [intOf]; omega
      have hkn' : k = d.x := by omega
      subst hkn'
      have HC := hide hct
      have HB := hide hb
      have hD := (unhide HD).below hb
      have c0 := hD.c0
      have hcl := hD.lt
      clear hct hb hD hk hkn
      go_wp2
      clear c0
      go_loopw [59] (fun i wr => ∃ k : Nat, k ≤ d.n ∧ i = .int .i64 k ∧ Counts wr w.heap.size d.n (fun j => cnt d.I j d.m + cnt d.X j d.x) ∧ (∀ j, j < k → ok5 d H j) ∧ Below w.heap.size w wr) (fun i _ => d.n - (intOf i).toNat)
      case atStart => exact ⟨0, by omega, rfl, unhide HC, fun j hj => by omega, unhide HB⟩
      case round =>
        clear HC HB hcl
        obtain ⟨k, hk, rfl, hct, hall, hb⟩ := hrel
        have HALL := hide hall
        clear hall
        by_cases hkn : k < d.n
        case neg =>
          have hkn' : k = d.n := by omega
          subst hkn'
          have HT := hide (tells_yes (p := D5 d H) (fun i hi => unhide HALL i hi))
          have HB := hide hb
          clear hb hct
          go_wp2
          go_ret
          exact ⟨by rw [unhide HT]; rfl, unhide HB⟩
        obtain ⟨b, off, rfl, hbl, hcs⟩ := (unhide HD).rows.log.resolve_left (by omega)
        obtain ⟨e0, e1, e2, e3, e4, e5, e6, e7, e8, e9, e10⟩ := (hcs k hkn).keep (fun q => hb.cell (p := ⟨b, q, none⟩) hbl)
        have r0 := hct.cell hkn
        have hsl := hct.lt
        have hD := (unhide HD).below hb
        have HB := hide hb
        have HCT := hide hct
        have hcl := hD.lt
        have c1 := hD.c1
        have hwz := hb.size
        have HDr := hide hD
        clear hcs hb hct hD
        by_cases ht : (d.L k).turn = 0
        · have HO : Hid (ok5 d H k) := hide (fun h => absurd ht h)
          rw [ht] at e10
          clear ht
          go_wp2
          go_roundw
          case rel => exact ⟨k + 1, by omega, by go_num, (unhide HCT).below ((Below.refl _ _).alloc (Nat.le_refl _) _), fun j hj => (by by_cases e : j = k; exact e ▸ unhide HO; exact unhide HALL j (by omega)), (unhide HB).alloc (unhide HB).size _⟩
          case measure => simp [intOf]; omega
        have ht' : ((d.L k).turn == 0) = false := by simp [ht]
        by_cases hc1 : cnt d.I k d.m + cnt d.X k d.x = 1
        case neg =>
          have HT := hide (not_D5 (H := H) hkn (fun h => hc1 (h ht).1))
          have hc1' : (((cnt d.I k d.m + cnt d.X k d.x : Nat) : Int) != 1) = true := by simp; omega
          generalize cnt d.I k d.m + cnt d.X k d.x = cc at r0 hc1' hc1
          clear ht hc1
          go_wp2
          go_ret
          exact ⟨by rw [unhide HT]; rfl, (unhide HB).alloc (unhide HB).size _⟩
        have HC1 := hide hc1
        rw [hc1] at r0
        have HTN := hide ht
        have HS' := hide (unhide HH k hkn ht)
        have hc1' : (((1 : Nat) : Int) != 1) = false := rfl
        clear hc1 ht
        obtain ⟨W, hW⟩ : ∃ W, W = wr.alloc (.cells #[.int .i64 (d.L k).key.kind, .int .i64 (d.L k).key.num, .float .f64 (d.L k).key.flt, .string (d.L k).key.str, .int .i64 (d.L k).key.ref, .int .i64 (d.L k).val.kind, .int .i64 (d.L k).val.num, .float .f64 (d.L k).val.flt, .string (d.L k).val.str, .int .i64 (d.L k).val.ref, .int .i64 (d.L k).turn] 43) := ⟨_, rfl⟩
        have HBW : Hid (Below wr.heap.size wr W) := hide (by rw [hW]; exact (Below.refl _ _).alloc (Nat.le_refl _) _)
        have y0 : W.cell? ⟨wr.heap.size, 0, none⟩ = some (.int .i64 (d.L k).key.kind) := by rw [hW]; simp [go_sem]
        have y1 : W.cell? ⟨wr.heap.size, 1, none⟩ = some (.int .i64 (d.L k).key.num) := by rw [hW]; simp [go_sem]
        have hzW : wr.heap.size < W.heap.size := by rw [hW]; simp
        go_wp2_with fail
        rw [← hW]
        clear hW
        refine (l1place_any c o (some ⟨b, off, none⟩) lc ia ic xa xc d (d.L k).key (H k) _ ((unhide HDr).below (unhide HBW)) (unhide HS) (unhide H3) (unhide H4) (unhide HS')).mono ?_
        rintro e w2 ⟨rfl, hb2⟩
        have z0 := (hb2.cell (p := ⟨wr.heap.size, 0, none⟩) hzW).trans y0
        have z1 := (hb2.cell (p := ⟨wr.heap.size, 1, none⟩) hzW).trans y1
        have hb3 : Below wr.heap.size wr w2 := (unhide HBW).trans (hb2.mono (unhide HBW).size)
        have hzw2 : wr.heap.size < w2.heap.size := Nat.lt_of_lt_of_le hzW hb2.size
        have HCT2 := hide ((unhide HCT).below hb3)
        have HB2 := hide ((unhide HB).trans (hb3.mono hwz))
        have c1' := (hb3.cell (p := ⟨c, o + 1, none⟩) hcl).trans c1
        have hcl2 : c < w2.heap.size := Nat.lt_of_lt_of_le hcl hb3.size
        clear hb2 hb3 c1 y0 y1 e0 e1 e2 e3 e4 e5 e6 e7 e8 e9 e10 r0
        by_cases hp : placeI d (d.L k).key (H k) = (k : Int)
        case neg =>
          have HT := hide (not_D5 (H := H) hkn (fun h => hp (h (unhide HTN)).2.1))
          have hp' : (placeI d (d.L k).key (H k) != (k : Int)) = true := by simp [hp]
          generalize placeI d (d.L k).key (H k) = pl at hp'
          clear hp
          go_wp2
          go_ret
          exact ⟨by rw [unhide HT]; rfl, unhide HB2⟩
        rw [hp]
        have HP := hide hp
        clear hp
        by_cases hk2 : (d.L k).key.kind = 2
        case neg =>
          have HO : Hid (ok5 d H k) := hide (fun _ => ⟨unhide HC1, unhide HP, fun h => hk2 h.1⟩)
          have hk2' : ((d.L k).key.kind == 2) = false := by simp [hk2]
          clear hk2
          go_wp2_with fail
          go_quiet (fail)
          go_wp2
          go_roundw
          case rel => exact ⟨k + 1, by omega, by go_num, (unhide HCT2), fun j hj => (by by_cases e : j = k; exact e ▸ unhide HO; exact unhide HALL j (by omega)), below_drewN' (unhide HB2) _⟩
          case measure => simp [intOf]; omega
        have hk2' : ((d.L k).key.kind == 2) = true := by simp [hk2]
        have hw : IntKind.i64.wrap ((d.m : Int) + 1) = (d.m : Int) + 1 := by rw [IntKind.wrap_i64]; omega
        by_cases hnm : (d.L k).key.num = (d.m : Int) + 1
        · have HT := hide (not_D5 (H := H) hkn (fun h => (h (unhide HTN)).2.2 ⟨hk2, hnm⟩))
          have hnm' : ((d.L k).key.num == (d.m : Int) + 1) = true := by simp [hnm]
          clear hk2 hnm
          go_wp2_with fail
          go_quiet (fail)
          go_wp2
          go_ret
          exact ⟨by rw [unhide HT]; rfl, below_drewN' (unhide HB2) _⟩
        · have HO : Hid (ok5 d H k) := hide (fun _ => ⟨unhide HC1, unhide HP, fun h => hnm h.2⟩)
          have hnm' : ((d.L k).key.num == (d.m : Int) + 1) = false := by simp [hnm]
          clear hk2 hnm
          go_wp2_with fail
          go_quiet (fail)
          go_wp2
          go_roundw
          case rel => exact ⟨k + 1, by omega, by go_num, (unhide HCT2), fun j hj => (by by_cases e : j = k; exact e ▸ unhide HO; exact unhide HALL j (by omega)), below_drewN' (unhide HB2) _⟩
          case measure => simp [intOf]; omega
end Go.Proofs.YtglcaejddckleaaGreatDoor
