/-
  Dicts: the program's rules 3 and 4.
-/
import Derived.Test.YtglcaejddckleaaDoorDiB
namespace Go.Proofs.YtglcaejddckleaaDoor
open Go.RowKit
set_option linter.unusedVariables false
attribute [local go_sem] run_store_float run_equalIn_float

def livingK (d : Dc) (x : Int) : Prop := 1 ≤ x ∧ x ≤ d.n ∧ (d.at x).turn ≠ 0

set_option maxHeartbeats 1000000 in
theorem isLiving_any (la : Option Addr) (lc : Nat) (ia : Option Addr) (ic : Nat) (xa : Option Addr) (xc : Nat) (d : Dc) (x : Int) (w : World) (hD : DAt w la ia xa d) (hS : Small d) :
    Calls Tryd.prog 31 #[Dv la lc ia ic xa xc d, .int .i64 x] w fun e w' => e = .returned (.bool (tells (livingK d x))) ∧ Below w.heap.size w w' := by
  have hn := hS.n
  by_cases h1 : 1 ≤ x
  case neg =>
    have HT := hide (tells_no (p := livingK d x) (fun h => h1 h.1))
    have h1' : decide (1 ≤ x) = false := by simp [h1]
    clear h1 hD hS
    go_enter Tryd.func31, Tryd.ntmps31
    go_wp2
    go_ret
    exact ⟨by rw [unhide HT]; rfl, (Below.refl _ _).alloc (Nat.le_refl _) _⟩
  by_cases h2 : x ≤ (d.n : Int)
  case neg =>
    have HT := hide (tells_no (p := livingK d x) (fun h => h2 h.2.1))
    clear hD hS
    go_enter Tryd.func31, Tryd.ntmps31
    go_wp2
    go_ret
    exact ⟨by rw [unhide HT]; rfl, (Below.refl _ _).alloc (Nat.le_refl _) _⟩
  obtain ⟨q, hq⟩ : ∃ q : Nat, x = (q : Int) + 1 := ⟨(x - 1).toNat, by omega⟩
  subst hq
  have hqn : q < d.n := by omega
  obtain ⟨b, off, rfl, hbl, hcs⟩ := hD.log.resolve_left (by omega)
  have e0 := (hcs q hqn).tn
  have hA : d.at ((q : Int) + 1) = d.L q := by unfold Dc.at; congr 1; omega
  by_cases ht : (d.L q).turn = 0
  · have HT := hide (tells_no (p := livingK d ((q : Int) + 1)) (fun h => h.2.2 (by rw [hA]; exact ht)))
    rw [ht] at e0
    clear hD hS hcs hA ht
    go_enter Tryd.func31, Tryd.ntmps31
    go_wp2
    go_ret
    exact ⟨by rw [unhide HT]; rfl, (Below.refl _ _).alloc (Nat.le_refl _) _⟩
  · have HT := hide (tells_yes (p := livingK d ((q : Int) + 1)) ⟨h1, h2, by rw [hA]; exact ht⟩)
    have ht' : ((d.L q).turn != 0) = true := by simp [ht]
    clear hD hS hcs hA ht
    go_enter Tryd.func31, Tryd.ntmps31
    go_wp2
    go_ret
    exact ⟨by rw [unhide HT]; simp, (Below.refl _ _).alloc (Nat.le_refl _) _⟩

set_option maxHeartbeats 1000000 in
theorem hasPlace_any (v : Vl) (m : Nat) (w : World) (hm : m ≤ 4194304) :
    Calls Tryd.prog 33 #[V v.kind v.num v.flt v.str v.ref, .int .i64 (m : Int)] w fun e w' => e = .returned (.bool (tells (smallK m v))) ∧ Below w.heap.size w w' := by
  by_cases h1 : v.kind = 2
  case neg =>
    have HT := hide (tells_no (p := smallK m v) (fun h => h1 h.1))
    have h1' : (v.kind == 2) = false := by simp [h1]
    clear h1
    go_enter Tryd.func33, Tryd.ntmps33
    go_wp2
    go_ret
    exact ⟨by rw [unhide HT]; rfl, (Below.refl _ _).alloc (Nat.le_refl _) _⟩
  have h1' : (v.kind == 2) = true := by simp [h1]
  by_cases h2 : 1 ≤ v.num
  case neg =>
    have HT := hide (tells_no (p := smallK m v) (fun h => h2 h.2.1))
    have h2' : decide (1 ≤ v.num) = false := by simp [h2]
    clear h1 h2
    go_enter Tryd.func33, Tryd.ntmps33
    go_wp2
    go_ret
    exact ⟨by rw [unhide HT]; rfl, (Below.refl _ _).alloc (Nat.le_refl _) _⟩
  have h2' : decide (1 ≤ v.num) = true := by simp [h2]
  by_cases h3 : v.num ≤ (m : Int)
  · have HT := hide (tells_yes (p := smallK m v) ⟨h1, h2, h3⟩)
    have h3' : decide (v.num ≤ (m : Int)) = true := by simp [h3]
    clear h1
    go_enter Tryd.func33, Tryd.ntmps33
    go_wp2
    go_ret
    exact ⟨by rw [unhide HT]; simp, (Below.refl _ _).alloc (Nat.le_refl _) _⟩
  · have HT := hide (tells_no (p := smallK m v) (fun h => h3 h.2.2))
    have h3' : decide (v.num ≤ (m : Int)) = false := by simp [h3]
    clear h1
    go_enter Tryd.func33, Tryd.ntmps33
    go_wp2
    go_ret
    exact ⟨by rw [unhide HT]; simp, (Below.refl _ _).alloc (Nat.le_refl _) _⟩

/-- A key that is an int, told by its kind and number. -/
theorem int_key {v : Vl} (h : keyB v = true) (hk : v.kind = 2) : (FloatKind.f64.format.order v.flt 0 == some .eq) = true ∧ v.str.toList.isEmpty = true ∧ v.ref = 0 := by
  have hv : v.ok = true := by unfold keyB at h; simp only [Bool.and_eq_true] at h; exact h.1.1
  unfold Vl.ok validB at hv
  simp only [hk] at hv
  simp [fz] at hv
  exact ⟨by simp [hv], by simp [hv], hv.2⟩

set_option maxRecDepth 100000 in
set_option maxHeartbeats 2000000 in
theorem intsHold_any (la : Option Addr) (lc : Nat) (ia : Option Addr) (ic : Nat) (xa : Option Addr) (xc : Nat) (d : Dc) (w : World) (hD : DAt w la ia xa d) (hS : Small d) (h2 : D2 d) :
    Calls Tryd.prog 19 #[Dv la lc ia ic xa xc d] w fun e w' => e = .returned (.bool (tells (D3 d))) ∧ Below w.heap.size w w' := by
  have hn := hS.n
  have hm := hS.m
  have HD := hide hD
  have HS := hide hS
  have H2 := hide h2
  clear hD hS h2
  go_enter Tryd.func19, Tryd.ntmps19
  go_wp2
  go_loopw [10] (fun i wr => ∃ (k : Nat), k ≤ d.m ∧ i = .int .i64 k ∧ (∀ j, j < k → okInt d j) ∧ w.heap.size < wr.heap.size ∧ wr.cell? ⟨w.heap.size, 0, none⟩ = some (.slice la d.n lc) ∧ wr.cell? ⟨w.heap.size, 1, none⟩ = some (.slice ia d.m ic) ∧ wr.cell? ⟨w.heap.size, 2, none⟩ = some (.slice xa d.x xc) ∧ wr.cell? ⟨w.heap.size, 3, none⟩ = some (.int .i64 d.used) ∧ wr.cell? ⟨w.heap.size, 4, none⟩ = some (.int .i64 d.live) ∧ wr.cell? ⟨w.heap.size, 5, none⟩ = some (.int .i64 d.turns) ∧ Below w.heap.size w wr) (fun i _ => d.m - (intOf i).toNat)
  case atStart => exact ⟨0, by omega, rfl, fun j hj => by omega, by simp, by simp [go_sem], by simp [go_sem], by simp [go_sem], by simp [go_sem], by simp [go_sem], by simp [go_sem], (Below.refl _ _).alloc (Nat.le_refl _) _⟩
  case round =>
    obtain ⟨k, hk, rfl, hall, hwz, c0, c1, c2, c3, c4, c5, hb⟩ := hrel
    have HALL := hide hall
    clear hall
    by_cases hkn : k < d.m
    case neg =>
      have hkn' : k = d.m := by omega
      subst hkn'
      by_cases h0 : d.m = 0
      · have HT := hide (tells_yes (p := D3 d) ⟨unhide HALL, .inl h0⟩)
        have h0' : ((d.m : Int) == 0) = true := by simp [h0]
        have HB := hide hb
        clear hb h0
        go_wp2
        go_ret
        exact ⟨by rw [unhide HT]; rfl, unhide HB⟩
      have h0' : ((d.m : Int) == 0) = false := by simp; omega
      obtain ⟨q, hq⟩ : ∃ q, d.m = q + 1 := ⟨d.m - 1, by omega⟩
      obtain ⟨b, off, rfl, hbl, hcs⟩ := (unhide HD).ints.resolve_left h0
      have e0 := (hb.cell (p := ⟨b, off + q, none⟩) hbl).trans (hcs q (by omega))
      have hq1 : IntKind.i64.wrap ((d.m : Int) - 1) = (q : Int) := by rw [IntKind.wrap_i64]; omega
      have hqm : q < d.m := by omega
      have HB := hide hb
      clear hcs hb
      have hpos : 0 < d.I q ↔ d.I q ≠ 0 := by
        rcases unhide HALL q hqm with h | h
        · omega
        · omega
      by_cases hp : d.I q = 0
      · have HT := hide (tells_no (p := D3 d) (fun h => by
          rcases h.2 with h | h
          · exact h0 h
          · rw [hq] at h; exact (hpos.1 h) hp))
        have hd : (d.I q != 0) = false := by simp [hp]
        have HQ := hide hq
        clear hp hq h0 hpos
        go_wp2
        go_ret
        exact ⟨by rw [unhide HT]; simp, unhide HB⟩
      · have HT := hide (tells_yes (p := D3 d) ⟨unhide HALL, .inr (by rw [hq]; exact hpos.2 hp)⟩)
        have hd : (d.I q != 0) = true := by simp [hp]
        have HQ := hide hq
        clear hp hq h0 hpos
        go_wp2
        go_ret
        exact ⟨by rw [unhide HT]; simp, unhide HB⟩
    obtain ⟨b, off, hia, hbl, hcs⟩ := (unhide HD).ints.resolve_left (by omega)
    subst hia
    have e0 := (hb.cell (p := ⟨b, off + k, none⟩) hbl).trans (hcs k hkn)
    have HB := hide hb
    have HDr := hide ((unhide HD).below hb)
    have hbsz := hb.size
    clear hcs hb
    by_cases h0 : d.I k = 0
    · have HO : Hid (okInt d k) := hide (.inl h0)
      rw [h0] at e0
      clear h0
      go_wp2
      go_roundw
      case rel => exact ⟨k + 1, by omega, by go_num, fun j hj => (by by_cases e : j = k; exact e ▸ unhide HO; exact unhide HALL j (by omega)), hwz, c0, c1, c2, c3, c4, c5, unhide HB⟩
      case measure => simp [intOf]; omega
    have h0' : (d.I k == 0) = false := by simp [h0]
    by_cases hl : livingK d (d.I k)
    case neg =>
      have HT := hide (not_D3 hkn (fun h => by rcases h with h | h; exact h0 h; exact hl ⟨by omega, h.2.1, h.2.2.1⟩))
      have HL := hide (tells_no hl)
      clear hl h0
      go_wp2_with fail
      refine wp_region_quiet (C := fun w' => Below wr.heap.size wr w') (by kernel_rfl) (by kernel_rfl) ((Below.refl _ _).drew) ?_
      show wpQuiet _ _ _ _ [_, _, _, _, _, _, _, _, _, _, _, _, _, _, _, _, _, _] _
      refine wpQuiet_step (fun K hK => ?_)
      go_simp
      apply Exists.intro
      refine And.intro (fun w' hw' => ?_) (hK _ ?_)
      · obtain ⟨hc', hf'⟩ := bcell hw'
        go_simp
        first | rfl | exact ⟨rfl, rfl⟩ | exact ⟨rfl⟩
      clear hK K
      refine wpQuiet_step (fun K hK => ?_)
      go_simp
      refine ⟨_, fun w' hw' => rfl, hK _ ?_⟩
      clear hK K
      refine wpQuiet_step (fun K hK => ?_)
      go_simp
      apply Exists.intro
      refine And.intro (fun w' hw' => ?_) (hK _ ?_)
      · refine (((unhide HL) ▸ isLiving_any la lc (some ⟨b, off, none⟩) ic xa xc d (d.I k) _ ((unhide HDr).below hw') (unhide HS))).mono ?_
        rintro e w'' ⟨rfl, hb⟩
        exact ⟨rfl, hw'.trans (hb.mono hw'.size)⟩
      clear hK K
      refine wpQuiet_step (fun K hK => ?_)
      go_simp
      refine ⟨_, fun w' hw' => rfl, hK _ ?_⟩
      clear hK K
      refine wpQuiet_step (fun K hK => ?_)
      go_simp
      refine ⟨_, fun w' hw' => rfl, hK _ ?_⟩
      clear hK K
      go_big_quiet_step (fail)
      go_big_quiet_step (fail)
      go_big_quiet_step (fail)
      go_big_quiet_step (fail)
      go_big_quiet_step (fail)
      go_big_quiet_step (fail)
      go_big_quiet_step (fail)
      go_big_quiet_step (fail)
      go_big_quiet_step (fail)
      go_big_quiet_step (fail)
      go_big_quiet_step (fail)
      go_big_quiet_step (fail)
      refine wpQuiet_step (fun K hK => ?_)
      go_simp
      refine ⟨_, fun w' hw' => rfl, hK _ ?_⟩
      clear hK K
      refine wpQuiet_nil ?_
      intro w2 hw2
      have HB2 := hide ((unhide HB).trans (hw2.mono hbsz))
      clear hw2
      go_wp2
      go_ret
      exact ⟨by rw [unhide HT]; rfl, unhide HB2⟩
    have HL := hide (tells_yes hl)
    obtain ⟨q, hq⟩ : ∃ q : Nat, d.I k = (q : Int) + 1 := ⟨(d.I k - 1).toNat, by have := hl.1; omega⟩
    have hqn : q < d.n := by have := hl.2.1; omega
    have hA : d.at (d.I k) = d.L q := by unfold Dc.at; rw [hq]; congr 1; omega
    have htq : (d.L q).turn ≠ 0 := hA ▸ hl.2.2
    have hkey := ((unhide H2).pos hqn htq).2
    obtain ⟨lb, lo, hla, hll, hls⟩ := (unhide HD).log.resolve_left (by omega)
    subst hla
    obtain ⟨e1, e2, e3, e4, e5, _, _, _, _, _, _⟩ := (hls q hqn).keep (fun q => (unhide HB).cell (p := ⟨lb, q, none⟩) hll)
    have hlw : lb < wr.heap.size := Nat.lt_of_lt_of_le hll hbsz
    have HOI : Hid (okInt d k ↔ (d.L q).key.kind = 2 ∧ (d.L q).key.num = (k : Int) + 1) := hide ⟨fun h => by
        rcases h with h | h
        · omega
        · rw [hA] at h; exact h.2.2.2, fun h => .inr ⟨by omega, by omega, by rw [hA]; exact htq, by rw [hA]; exact h.1, by rw [hA]; exact h.2⟩⟩
    rw [hq] at e0 h0' HL
    have hwq : IntKind.i64.wrap (q : Int) = q := by rw [IntKind.wrap_i64]; omega
    have hwk : IntKind.i64.wrap ((k : Int) + 1) = (k : Int) + 1 := by rw [IntKind.wrap_i64]; omega
    have HQ := hide hq
    have HKEY := hide hkey
    have HTQ := hide htq
    clear hls hl h0 hq hA hkey htq
    by_cases hk2 : (d.L q).key.kind = 2 ∧ (d.L q).key.num = (k : Int) + 1
    · obtain ⟨k1, k2⟩ := hk2
      have HO : Hid (okInt d k) := hide ((unhide HOI).2 ⟨k1, k2⟩)
      obtain ⟨f1, f2, f3⟩ := int_key (unhide HKEY) k1
      rw [k1] at e1
      rw [k2] at e2
      rw [f3] at e5
      clear k1 k2 f3
      go_wp2_with fail
      refine wp_region_quiet (C := fun w' => Below wr.heap.size wr w') (by kernel_rfl) (by kernel_rfl) ((Below.refl _ _).drew) ?_
      show wpQuiet _ _ _ _ [_, _, _, _, _, _, _, _, _, _, _, _, _, _, _, _, _, _] _
      refine wpQuiet_step (fun K hK => ?_)
      go_simp
      apply Exists.intro
      refine And.intro (fun w' hw' => ?_) (hK _ ?_)
      · obtain ⟨hc', hf'⟩ := bcell hw'
        go_simp
        first | rfl | exact ⟨rfl, rfl⟩ | exact ⟨rfl⟩
      clear hK K
      refine wpQuiet_step (fun K hK => ?_)
      go_simp
      refine ⟨_, fun w' hw' => rfl, hK _ ?_⟩
      clear hK K
      refine wpQuiet_step (fun K hK => ?_)
      go_simp
      apply Exists.intro
      refine And.intro (fun w' hw' => ?_) (hK _ ?_)
      · refine (((unhide HL) ▸ isLiving_any (some ⟨lb, lo, none⟩) lc (some ⟨b, off, none⟩) ic xa xc d ((q : Int) + 1) _ ((unhide HDr).below hw') (unhide HS))).mono ?_
        rintro e w'' ⟨rfl, hb⟩
        exact ⟨rfl, hw'.trans (hb.mono hw'.size)⟩
      clear hK K
      refine wpQuiet_step (fun K hK => ?_)
      go_simp
      refine ⟨_, fun w' hw' => rfl, hK _ ?_⟩
      clear hK K
      refine wpQuiet_step (fun K hK => ?_)
      go_simp
      refine ⟨_, fun w' hw' => rfl, hK _ ?_⟩
      clear hK K
      refine wpQuiet_step (fun K hK => ?_)
      go_simp
      refine ⟨_, fun w' hw' => rfl, hK _ ?_⟩
      clear hK K
      refine wpQuiet_step (fun K hK => ?_)
      go_simp
      refine ⟨_, fun w' hw' => rfl, hK _ ?_⟩
      clear hK K
      refine wpQuiet_step (fun K hK => ?_)
      go_simp
      apply Exists.intro
      refine And.intro (fun w' hw' => ?_) (hK _ ?_)
      · obtain ⟨hc', hf'⟩ := bcell hw'
        go_simp
        first | rfl | exact ⟨rfl, rfl⟩ | exact ⟨rfl⟩
      clear hK K
      refine wpQuiet_step (fun K hK => ?_)
      go_simp
      refine ⟨_, fun w' hw' => rfl, hK _ ?_⟩
      clear hK K
      refine wpQuiet_step (fun K hK => ?_)
      go_simp
      refine ⟨_, fun w' hw' => rfl, hK _ ?_⟩
      clear hK K
      refine wpQuiet_step (fun K hK => ?_)
      go_simp
      refine ⟨_, fun w' hw' => rfl, hK _ ?_⟩
      clear hK K
      refine wpQuiet_step (fun K hK => ?_)
      go_simp
      refine ⟨_, fun w' hw' => rfl, hK _ ?_⟩
      clear hK K
      refine wpQuiet_step (fun K hK => ?_)
      go_simp
      apply Exists.intro
      refine And.intro (fun w' hw' => ?_) (hK _ ?_)
      · obtain ⟨hc', hf'⟩ := bcell hw'
        go_simp
        first | rfl | exact ⟨rfl, rfl⟩ | exact ⟨rfl⟩
      clear hK K
      refine wpQuiet_step (fun K hK => ?_)
      go_simp
      refine ⟨_, fun w' hw' => rfl, hK _ ?_⟩
      clear hK K
      refine wpQuiet_step (fun K hK => ?_)
      go_simp
      refine ⟨_, fun w' hw' => rfl, hK _ ?_⟩
      clear hK K
      refine wpQuiet_step (fun K hK => ?_)
      go_simp
      apply Exists.intro
      refine And.intro (fun w' hw' => ?_) (hK _ ?_)
      · refine (intValue_any ((k : Int) + 1) _).mono ?_
        rintro e w'' ⟨rfl, hb⟩
        exact ⟨rfl, hw'.trans (hb.mono hw'.size)⟩
      clear hK K
      refine wpQuiet_step (fun K hK => ?_)
      go_simp
      refine ⟨_, fun w' hw' => rfl, hK _ ?_⟩
      clear hK K
      refine wpQuiet_step (fun K hK => ?_)
      go_simp
      refine ⟨_, fun w' hw' => rfl, hK _ ?_⟩
      clear hK K
      refine wpQuiet_nil ?_
      intro w2 hw2
      have HB2 := hide ((unhide HB).trans (hw2.mono hbsz))
      have hsz2 : w.heap.size < w2.heap.size := Nat.lt_of_lt_of_le hwz hw2.size
      have g0 := (hw2.cell (p := ⟨w.heap.size, 0, none⟩) hwz).trans c0
      have g1 := (hw2.cell (p := ⟨w.heap.size, 1, none⟩) hwz).trans c1
      have g2 := (hw2.cell (p := ⟨w.heap.size, 2, none⟩) hwz).trans c2
      have g3 := (hw2.cell (p := ⟨w.heap.size, 3, none⟩) hwz).trans c3
      have g4 := (hw2.cell (p := ⟨w.heap.size, 4, none⟩) hwz).trans c4
      have g5 := (hw2.cell (p := ⟨w.heap.size, 5, none⟩) hwz).trans c5
      clear hw2 c0 c1 c2 c3 c4 c5
      go_wp2
      go_roundw
      case rel => exact ⟨k + 1, by omega, by go_num, fun j hj => (by by_cases e : j = k; exact e ▸ unhide HO; exact unhide HALL j (by omega)), hsz2, g0, g1, g2, g3, g4, g5, unhide HB2⟩
      case measure => simp [intOf]; omega
    · have HT := hide (not_D3 hkn (fun h => hk2 ((unhide HOI).1 h)))
      by_cases k1 : (d.L q).key.kind = 2
      · obtain ⟨f1, f2, f3⟩ := int_key (unhide HKEY) k1
        have k2 : ((d.L q).key.num == (k : Int) + 1) = false := by simp; exact fun h => hk2 ⟨k1, h⟩
        rw [k1] at e1
        rw [f3] at e5
        clear k1 hk2 f3
        go_wp2_with fail
        refine wp_region_quiet (C := fun w' => Below wr.heap.size wr w') (by kernel_rfl) (by kernel_rfl) ((Below.refl _ _).drew) ?_
        show wpQuiet _ _ _ _ [_, _, _, _, _, _, _, _, _, _, _, _, _, _, _, _, _, _] _
        refine wpQuiet_step (fun K hK => ?_)
        go_simp
        apply Exists.intro
        refine And.intro (fun w' hw' => ?_) (hK _ ?_)
        · obtain ⟨hc', hf'⟩ := bcell hw'
          go_simp
          first | rfl | exact ⟨rfl, rfl⟩ | exact ⟨rfl⟩
        clear hK K
        refine wpQuiet_step (fun K hK => ?_)
        go_simp
        refine ⟨_, fun w' hw' => rfl, hK _ ?_⟩
        clear hK K
        refine wpQuiet_step (fun K hK => ?_)
        go_simp
        apply Exists.intro
        refine And.intro (fun w' hw' => ?_) (hK _ ?_)
        · refine (((unhide HL) ▸ isLiving_any (some ⟨lb, lo, none⟩) lc (some ⟨b, off, none⟩) ic xa xc d ((q : Int) + 1) _ ((unhide HDr).below hw') (unhide HS))).mono ?_
          rintro e w'' ⟨rfl, hb⟩
          exact ⟨rfl, hw'.trans (hb.mono hw'.size)⟩
        clear hK K
        refine wpQuiet_step (fun K hK => ?_)
        go_simp
        refine ⟨_, fun w' hw' => rfl, hK _ ?_⟩
        clear hK K
        refine wpQuiet_step (fun K hK => ?_)
        go_simp
        refine ⟨_, fun w' hw' => rfl, hK _ ?_⟩
        clear hK K
        refine wpQuiet_step (fun K hK => ?_)
        go_simp
        refine ⟨_, fun w' hw' => rfl, hK _ ?_⟩
        clear hK K
        refine wpQuiet_step (fun K hK => ?_)
        go_simp
        refine ⟨_, fun w' hw' => rfl, hK _ ?_⟩
        clear hK K
        refine wpQuiet_step (fun K hK => ?_)
        go_simp
        apply Exists.intro
        refine And.intro (fun w' hw' => ?_) (hK _ ?_)
        · obtain ⟨hc', hf'⟩ := bcell hw'
          go_simp
          first | rfl | exact ⟨rfl, rfl⟩ | exact ⟨rfl⟩
        clear hK K
        refine wpQuiet_step (fun K hK => ?_)
        go_simp
        refine ⟨_, fun w' hw' => rfl, hK _ ?_⟩
        clear hK K
        refine wpQuiet_step (fun K hK => ?_)
        go_simp
        refine ⟨_, fun w' hw' => rfl, hK _ ?_⟩
        clear hK K
        refine wpQuiet_step (fun K hK => ?_)
        go_simp
        refine ⟨_, fun w' hw' => rfl, hK _ ?_⟩
        clear hK K
        refine wpQuiet_step (fun K hK => ?_)
        go_simp
        refine ⟨_, fun w' hw' => rfl, hK _ ?_⟩
        clear hK K
        refine wpQuiet_step (fun K hK => ?_)
        go_simp
        apply Exists.intro
        refine And.intro (fun w' hw' => ?_) (hK _ ?_)
        · obtain ⟨hc', hf'⟩ := bcell hw'
          go_simp
          first | rfl | exact ⟨rfl, rfl⟩ | exact ⟨rfl⟩
        clear hK K
        refine wpQuiet_step (fun K hK => ?_)
        go_simp
        refine ⟨_, fun w' hw' => rfl, hK _ ?_⟩
        clear hK K
        refine wpQuiet_step (fun K hK => ?_)
        go_simp
        refine ⟨_, fun w' hw' => rfl, hK _ ?_⟩
        clear hK K
        refine wpQuiet_step (fun K hK => ?_)
        go_simp
        apply Exists.intro
        refine And.intro (fun w' hw' => ?_) (hK _ ?_)
        · refine (intValue_any ((k : Int) + 1) _).mono ?_
          rintro e w'' ⟨rfl, hb⟩
          exact ⟨rfl, hw'.trans (hb.mono hw'.size)⟩
        clear hK K
        refine wpQuiet_step (fun K hK => ?_)
        go_simp
        refine ⟨_, fun w' hw' => rfl, hK _ ?_⟩
        clear hK K
        refine wpQuiet_step (fun K hK => ?_)
        go_simp
        refine ⟨_, fun w' hw' => rfl, hK _ ?_⟩
        clear hK K
        refine wpQuiet_nil ?_
        intro w2 hw2
        have HB2 := hide ((unhide HB).trans (hw2.mono hbsz))
        clear hw2
        go_wp2
        go_ret
        exact ⟨by rw [unhide HT]; rfl, unhide HB2⟩
      · have k1' : ((d.L q).key.kind == 2) = false := by simp [k1]
        clear k1 hk2
        go_wp2_with fail
        refine wp_region_quiet (C := fun w' => Below wr.heap.size wr w') (by kernel_rfl) (by kernel_rfl) ((Below.refl _ _).drew) ?_
        show wpQuiet _ _ _ _ [_, _, _, _, _, _, _, _, _, _, _, _, _, _, _, _, _, _] _
        refine wpQuiet_step (fun K hK => ?_)
        go_simp
        apply Exists.intro
        refine And.intro (fun w' hw' => ?_) (hK _ ?_)
        · obtain ⟨hc', hf'⟩ := bcell hw'
          go_simp
          first | rfl | exact ⟨rfl, rfl⟩ | exact ⟨rfl⟩
        clear hK K
        refine wpQuiet_step (fun K hK => ?_)
        go_simp
        refine ⟨_, fun w' hw' => rfl, hK _ ?_⟩
        clear hK K
        refine wpQuiet_step (fun K hK => ?_)
        go_simp
        apply Exists.intro
        refine And.intro (fun w' hw' => ?_) (hK _ ?_)
        · refine (((unhide HL) ▸ isLiving_any (some ⟨lb, lo, none⟩) lc (some ⟨b, off, none⟩) ic xa xc d ((q : Int) + 1) _ ((unhide HDr).below hw') (unhide HS))).mono ?_
          rintro e w'' ⟨rfl, hb⟩
          exact ⟨rfl, hw'.trans (hb.mono hw'.size)⟩
        clear hK K
        refine wpQuiet_step (fun K hK => ?_)
        go_simp
        refine ⟨_, fun w' hw' => rfl, hK _ ?_⟩
        clear hK K
        refine wpQuiet_step (fun K hK => ?_)
        go_simp
        refine ⟨_, fun w' hw' => rfl, hK _ ?_⟩
        clear hK K
        refine wpQuiet_step (fun K hK => ?_)
        go_simp
        refine ⟨_, fun w' hw' => rfl, hK _ ?_⟩
        clear hK K
        refine wpQuiet_step (fun K hK => ?_)
        go_simp
        refine ⟨_, fun w' hw' => rfl, hK _ ?_⟩
        clear hK K
        refine wpQuiet_step (fun K hK => ?_)
        go_simp
        apply Exists.intro
        refine And.intro (fun w' hw' => ?_) (hK _ ?_)
        · obtain ⟨hc', hf'⟩ := bcell hw'
          go_simp
          first | rfl | exact ⟨rfl, rfl⟩ | exact ⟨rfl⟩
        clear hK K
        refine wpQuiet_step (fun K hK => ?_)
        go_simp
        refine ⟨_, fun w' hw' => rfl, hK _ ?_⟩
        clear hK K
        refine wpQuiet_step (fun K hK => ?_)
        go_simp
        refine ⟨_, fun w' hw' => rfl, hK _ ?_⟩
        clear hK K
        refine wpQuiet_step (fun K hK => ?_)
        go_simp
        refine ⟨_, fun w' hw' => rfl, hK _ ?_⟩
        clear hK K
        refine wpQuiet_step (fun K hK => ?_)
        go_simp
        refine ⟨_, fun w' hw' => rfl, hK _ ?_⟩
        clear hK K
        refine wpQuiet_step (fun K hK => ?_)
        go_simp
        apply Exists.intro
        refine And.intro (fun w' hw' => ?_) (hK _ ?_)
        · obtain ⟨hc', hf'⟩ := bcell hw'
          go_simp
          first | rfl | exact ⟨rfl, rfl⟩ | exact ⟨rfl⟩
        clear hK K
        refine wpQuiet_step (fun K hK => ?_)
        go_simp
        refine ⟨_, fun w' hw' => rfl, hK _ ?_⟩
        clear hK K
        refine wpQuiet_step (fun K hK => ?_)
        go_simp
        refine ⟨_, fun w' hw' => rfl, hK _ ?_⟩
        clear hK K
        refine wpQuiet_step (fun K hK => ?_)
        go_simp
        apply Exists.intro
        refine And.intro (fun w' hw' => ?_) (hK _ ?_)
        · refine (intValue_any ((k : Int) + 1) _).mono ?_
          rintro e w'' ⟨rfl, hb⟩
          exact ⟨rfl, hw'.trans (hb.mono hw'.size)⟩
        clear hK K
        refine wpQuiet_step (fun K hK => ?_)
        go_simp
        refine ⟨_, fun w' hw' => rfl, hK _ ?_⟩
        clear hK K
        refine wpQuiet_step (fun K hK => ?_)
        go_simp
        refine ⟨_, fun w' hw' => rfl, hK _ ?_⟩
        clear hK K
        refine wpQuiet_nil ?_
        intro w2 hw2
        have HB2 := hide ((unhide HB).trans (hw2.mono hbsz))
        clear hw2
        go_wp2
        go_ret
        exact ⟨by rw [unhide HT]; rfl, unhide HB2⟩
end Go.Proofs.YtglcaejddckleaaDoor
