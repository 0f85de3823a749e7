/-
  DiC, DiD.
-/
import Derived.Test.YtfceeijdmilieaaGreatDoorDiBP
namespace Go.Proofs.YtfceeijdmilieaaGreatDoor
open Go.RowKit
set_option linter.unusedVariables false
attribute [local go_sem] run_store_float run_equalIn_float

def livingK (d : Dc) (x : Int) : Prop := 1 ≤ x ∧ x ≤ d.n ∧ (d.at x).turn ≠ 0

set_option maxHeartbeats 1000000 in
theorem isLiving_any (la : Option Addr) (lc : Nat) (ia : Option Addr) (ic : Nat) (xa : Option Addr) (xc : Nat) (d : Dc) (x : Int) (w : World) (hD : DAt w la ia xa d) (hS : Small d) :
    Calls Tryz.prog 236 #[Dv la lc ia ic xa xc d, .int .i64 x] w fun e w' => e = .returned (.bool (tells (livingK d x))) ∧ Below w.heap.size w w' := by
  have hn := hS.n
  by_cases h1 : 1 ≤ x
  case neg =>
    have HT := hide (tells_no (p := livingK d x) (fun h => h1 h.1))
    have h1' : decide (1 ≤ x) = false := by simp [h1]
    clear h1 hD hS
    go_enter Tryz.func236, Tryz.ntmps236
    go_wp2
    go_ret
    exact ⟨by rw [unhide HT]; rfl, (Below.refl _ _).alloc (Nat.le_refl _) _⟩
  by_cases h2 : x ≤ (d.n : Int)
  case neg =>
    have HT := hide (tells_no (p := livingK d x) (fun h => h2 h.2.1))
    clear hD hS
    go_enter Tryz.func236, Tryz.ntmps236
    go_wp2
    go_ret
    exact ⟨by rw [unhide HT]; rfl, (Below.refl _ _).alloc (Nat.le_refl _) _⟩
  obtain ⟨q, hq⟩ : ∃ q : Nat, x = (q : Int) + 1 := ⟨(x - 1).toNat, by omega⟩
  subst hq
  have hqn : q < d.n := by omega
  obtain ⟨b, off, rfl, hbl, hcs⟩ := hD.log.resolve_left (by omega)
  have e0 := (hcs q hqn).tn
  have hA : d.at ((q : Int) + 1) = d.L q := by unfold Dc.at; congr 1; omega
  by_cases ht : (d.L q).turn = 0
  · have HT := hide (tells_no (p := livingK d ((q : Int) + 1)) (fun h => h.2.2 (by rw [hA]; exact ht)))
    rw [ht] at e0
    clear hD hS hcs hA ht
    go_enter Tryz.func236, Tryz.ntmps236
    go_wp2
    go_ret
    exact ⟨by rw [unhide HT]; rfl, (Below.refl _ _).alloc (Nat.le_refl _) _⟩
  · have HT := hide (tells_yes (p := livingK d ((q : Int) + 1)) ⟨h1, h2, by rw [hA]; exact ht⟩)
    have ht' : ((d.L q).turn != 0) = true := by simp [ht]
    clear hD hS hcs hA ht
    go_enter Tryz.func236, Tryz.ntmps236
    go_wp2
    go_ret
    exact ⟨by rw [unhide HT]; simp, (Below.refl _ _).alloc (Nat.le_refl _) _⟩

set_option maxHeartbeats 1000000 in
theorem hasPlace_any (v : Vl) (m : Nat) (w : World) (hm : m ≤ 4194304) :
    Calls Tryz.prog 238 #[V v.kind v.num v.flt v.str v.ref, .int .i64 (m : Int)] w fun e w' => e = .returned (.bool (tells (smallK m v))) ∧ Below w.heap.size w w' := by
  by_cases h1 : v.kind = 2
  case neg =>
    have HT := hide (tells_no (p := smallK m v) (fun h => h1 h.1))
    have h1' : (v.kind == 2) = false := by simp [h1]
    clear h1
    go_enter Tryz.func238, Tryz.ntmps238
    go_wp2
    go_ret
    exact ⟨by rw [unhide HT]; rfl, (Below.refl _ _).alloc (Nat.le_refl _) _⟩
  have h1' : (v.kind == 2) = true := by simp [h1]
  by_cases h2 : 1 ≤ v.num
  case neg =>
    have HT := hide (tells_no (p := smallK m v) (fun h => h2 h.2.1))
    have h2' : decide (1 ≤ v.num) = false := by simp [h2]
    clear h1 h2
    go_enter Tryz.func238, Tryz.ntmps238
    go_wp2
    go_ret
    exact ⟨by rw [unhide HT]; rfl, (Below.refl _ _).alloc (Nat.le_refl _) _⟩
  have h2' : decide (1 ≤ v.num) = true := by simp [h2]
  by_cases h3 : v.num ≤ (m : Int)
  · have HT := hide (tells_yes (p := smallK m v) ⟨h1, h2, h3⟩)
    have h3' : decide (v.num ≤ (m : Int)) = true := by simp [h3]
    clear h1
    go_enter Tryz.func238, Tryz.ntmps238
    go_wp2
    go_ret
    exact ⟨by rw [unhide HT]; simp, (Below.refl _ _).alloc (Nat.le_refl _) _⟩
  · have HT := hide (tells_no (p := smallK m v) (fun h => h3 h.2.2))
    have h3' : decide (v.num ≤ (m : Int)) = false := by simp [h3]
    clear h1
    go_enter Tryz.func238, Tryz.ntmps238
    go_wp2
    go_ret
    exact ⟨by rw [unhide HT]; simp, (Below.refl _ _).alloc (Nat.le_refl _) _⟩

/-- A key that is an int, told by its kind and number. -/
theorem int_key {v : Vl} (h : keyB v = true) (hk : v.kind = 2) : (FloatKind.f64.format.order v.flt 0 == some .eq) = true ∧ v.str.toList.isEmpty = true ∧ v.ref = 0 := by
  have hv : v.ok = true := by unfold keyB at h; simp only [Bool.and_eq_true] at h; exact h.1.1
  unfold Vl.ok validB at hv
  simp only [hk] at hv
  simp [fz] at hv
  exact ⟨by simp [hv], by simp [hv], hv.2⟩

set_option maxRecDepth 100000 in
set_option maxHeartbeats 2000000 in
theorem intsHold_any (la : Option Addr) (lc : Nat) (ia : Option Addr) (ic : Nat) (xa : Option Addr) (xc : Nat) (d : Dc) (w : World) (hD : DAt w la ia xa d) (hS : Small d) (h2 : D2 d) :
    Calls Tryz.prog 213 #[Dv la lc ia ic xa xc d] w fun e w' => e = .returned (.bool (tells (D3 d))) ∧ Below w.heap.size w w' := by
  have hn := hS.n
  have hm := hS.m
  have HD := hide hD
  have HS := hide hS
  have H2 := hide h2
  clear hD hS h2
  go_enter Tryz.func213, Tryz.ntmps213
  go_wp2
  go_loopw [10] (fun i wr => ∃ (k : Nat), k ≤ d.m ∧ i = .int .i64 k ∧ (∀ j, j < k → okInt d j) ∧ w.heap.size < wr.heap.size ∧ wr.cell? ⟨w.heap.size, 0, none⟩ = some (.slice la d.n lc) ∧ wr.cell? ⟨w.heap.size, 1, none⟩ = some (.slice ia d.m ic) ∧ wr.cell? ⟨w.heap.size, 2, none⟩ = some (.slice xa d.x xc) ∧ wr.cell? ⟨w.heap.size, 3, none⟩ = some (.int .i64 d.used) ∧ wr.cell? ⟨w.heap.size, 4, none⟩ = some (.int .i64 d.live) ∧ wr.cell? ⟨w.heap.size, 5, none⟩ = some (.int .i64 d.turns) ∧ Below w.heap.size w wr) (fun i _ => d.m - (intOf i).toNat)
  case atStart => exact ⟨0, by omega, rfl, fun j hj => by omega, by simp, by simp [go_sem], by simp [go_sem], by simp [go_sem], by simp [go_sem], by simp [go_sem], by simp [go_sem], (Below.refl _ _).alloc (Nat.le_refl _) _⟩
  case round =>
    obtain ⟨k, hk, rfl, hall, hwz, c0, c1, c2, c3, c4, c5, hb⟩ := hrel
    have HALL := hide hall
    clear hall
    by_cases hkn : k < d.m
    case neg =>
      have hkn' : k = d.m := by omega
      subst hkn'
      by_cases h0 : d.m = 0
      · have HT := hide (tells_yes (p := D3 d) ⟨unhide HALL, .inl h0⟩)
        have h0' : ((d.m : Int) == 0) = true := by simp [h0]
        have HB := hide hb
        clear hb h0
        go_wp2
        go_ret
        exact ⟨by rw [unhide HT]; rfl, unhide HB⟩
      have h0' : ((d.m : Int) == 0) = false := by simp; omega
      obtain ⟨q, hq⟩ : ∃ q, d.m = q + 1 := ⟨d.m - 1, by omega⟩
      obtain ⟨b, off, rfl, hbl, hcs⟩ := (unhide HD).ints.resolve_left h0
      have e0 := (hb.cell (p := ⟨b, off + q, none⟩) hbl).trans (hcs q (by omega))
      have hq1 : IntKind.i64.wrap ((d.m : Int) - 1) = (q : Int) := by rw [IntKind.wrap_i64]; omega
      have hqm : q < d.m := by omega
      have HB := hide hb
      clear hcs hb
      have hpos : 0 < d.I q ↔ d.I q ≠ 0 := by
        rcases unhide HALL q hqm with h | h
        · omega
        · omega
      by_cases hp : d.I q = 0
      · have HT := hide (tells_no (p := D3 d) (fun h => by
          rcases h.2 with h | h
          · exact h0 h
          · rw [hq] at h; exact (hpos.1 h) hp))
        have hd : (d.I q != 0) = false := by simp [hp]
        have HQ := hide hq
        clear hp hq h0 hpos
        go_wp2
        go_ret
        exact ⟨by rw [unhide HT]; simp, unhide HB⟩
      · have HT := hide (tells_yes (p := D3 d) ⟨unhide HALL, .inr (by rw [hq]; exact hpos.2 hp)⟩)
        have hd : (d.I q != 0) = true := by simp [hp]
        have HQ := hide hq
        clear hp hq h0 hpos
        go_wp2
        go_ret
        exact ⟨by rw [unhide HT]; simp, unhide HB⟩
    obtain ⟨b, off, hia, hbl, hcs⟩ := (unhide HD).ints.resolve_left (by omega)
    subst hia
    have e0 := (hb.cell (p := ⟨b, off + k, none⟩) hbl).trans (hcs k hkn)
    have HB := hide hb
    have HDr := hide ((unhide HD).below hb)
    have hbsz := hb.size
    clear hcs hb
    by_cases h0 : d.I k = 0
    · have HO : Hid (okInt d k) := hide (.inl h0)
      rw [h0] at e0
      clear h0
      go_wp2
      go_roundw
      case rel => exact ⟨k + 1, by omega, by go_num, fun j hj => (by by_cases e : j = k; exact e ▸ unhide HO; exact unhide HALL j (by omega)), hwz, c0, c1, c2, c3, c4, c5, unhide HB⟩
      case measure => simp [intOf]; omega
    have h0' : (d.I k == 0) = false := by simp [h0]
    by_cases hl : livingK d (d.I k)
    case neg =>
      have HT := hide (not_D3 hkn (fun h => by rcases h with h | h; exact h0 h; exact hl ⟨by omega, h.2.1, h.2.2.1⟩))
      have HL := hide (tells_no hl)
      clear hl h0
      go_wp2_with fail
      refine wp_region_quiet (C := fun w' => Below wr.heap.size wr w') (by kernel_rfl) (by kernel_rfl) ((Below.refl _ _).drew) ?_
      show wpQuiet _ _ _ _ [_, _, _, _, _, _, _, _, _, _, _, _, _, _, _, _, _, _] _
      refine wpQuiet_step (fun K hK => ?_)
      go_simp
      apply Exists.intro
      refine And.intro (fun w' hw' => ?_) (hK _ ?_)
      · obtain ⟨hc', hf'⟩ := bcell hw'
        go_simp
        first | rfl | exact ⟨rfl, rfl⟩ | exact ⟨rfl⟩
      clear hK K
      refine wpQuiet_step (fun K hK => ?_)
      go_simp
      refine ⟨_, fun w' hw' => rfl, hK _ ?_⟩
      clear hK K
      refine wpQuiet_step (fun K hK => ?_)
      go_simp
      apply Exists.intro
      refine And.intro (fun w' hw' => ?_) (hK _ ?_)
      · refine (((unhide HL) ▸ isLiving_any la lc (some ⟨b, off, none⟩) ic xa xc d (d.I k) _ ((unhide HDr).below hw') (unhide HS))).mono ?_
        rintro e w'' ⟨rfl, hb⟩
        exact ⟨rfl, hw'.trans (hb.mono hw'.size)⟩
      clear hK K
      refine wpQuiet_step (fun K hK => ?_)
      go_simp
      refine ⟨_, fun w' hw' => rfl, hK _ ?_⟩
      clear hK K
      refine wpQuiet_step (fun K hK => ?_)
      go_simp
      refine ⟨_, fun w' hw' => rfl, hK _ ?_⟩
      clear hK K
      go_big_quiet_step (fail)
      go_big_quiet_step (fail)
      go_big_quiet_step (fail)
      go_big_quiet_step (fail)
      go_big_quiet_step (fail)
      go_big_quiet_step (fail)
      go_big_quiet_step (fail)
      go_big_quiet_step (fail)
      go_big_quiet_step (fail)
      go_big_quiet_step (fail)
      go_big_quiet_step (fail)
      go_big_quiet_step (fail)
      refine wpQuiet_step (fun K hK => ?_)
      go_simp
      refine ⟨_, fun w' hw' => rfl, hK _ ?_⟩
      clear hK K
      refine wpQuiet_nil ?_
      intro w2 hw2
      have HB2 := hide ((unhide HB).trans (hw2.mono hbsz))
      clear hw2
      go_wp2
      go_ret
      exact ⟨by rw [unhide HT]; rfl, unhide HB2⟩
    have HL := hide (tells_yes hl)
    obtain ⟨q, hq⟩ : ∃ q : Nat, d.I k = (q : Int) + 1 := ⟨(d.I k - 1).toNat, by have := hl.1; omega⟩
    have hqn : q < d.n := by have := hl.2.1; omega
    have hA : d.at (d.I k) = d.L q := by unfold Dc.at; rw [hq]; congr 1; omega
    have htq : (d.L q).turn ≠ 0 := hA ▸ hl.2.2
    have hkey := ((unhide H2).pos hqn htq).2
    obtain ⟨lb, lo, hla, hll, hls⟩ := (unhide HD).log.resolve_left (by omega)
    subst hla
    obtain ⟨e1, e2, e3, e4, e5, _, _, _, _, _, _⟩ := (hls q hqn).keep (fun q => (unhide HB).cell (p := ⟨lb, q, none⟩) hll)
    have hlw : lb < wr.heap.size := Nat.lt_of_lt_of_le hll hbsz
    have HOI : Hid (okInt d k ↔ (d.L q).key.kind = 2 ∧ (d.L q).key.num = (k : Int) + 1) := hide ⟨fun h => by
        rcases h with h | h
        · omega
        · rw [hA] at h; exact h.2.2.2, fun h => .inr ⟨by omega, by omega, by rw [hA]; exact htq, by rw [hA]; exact h.1, by rw [hA]; exact h.2⟩⟩
    rw [hq] at e0 h0' HL
    have hwq : IntKind.i64.wrap (q : Int) = q := by rw [IntKind.wrap_i64]; omega
    have hwk : IntKind.i64.wrap ((k : Int) + 1) = (k : Int) + 1 := by rw [IntKind.wrap_i64]; omega
    have HQ := hide hq
    have HKEY := hide hkey
    have HTQ := hide htq
    clear hls hl h0 hq hA hkey htq
    by_cases hk2 : (d.L q).key.kind = 2 ∧ (d.L q).key.num = (k : Int) + 1
    · obtain ⟨k1, k2⟩ := hk2
      have HO : Hid (okInt d k) := hide ((unhide HOI).2 ⟨k1, k2⟩)
      obtain ⟨f1, f2, f3⟩ := int_key (unhide HKEY) k1
      rw [k1] at e1
      rw [k2] at e2
      rw [f3] at e5
      clear k1 k2 f3
      go_wp2_with fail
      refine wp_region_quiet (C := fun w' => Below wr.heap.size wr w') (by kernel_rfl) (by kernel_rfl) ((Below.refl _ _).drew) ?_
      show wpQuiet _ _ _ _ [_, _, _, _, _, _, _, _, _, _, _, _, _, _, _, _, _, _] _
      refine wpQuiet_step (fun K hK => ?_)
      go_simp
      apply Exists.intro
      refine And.intro (fun w' hw' => ?_) (hK _ ?_)
      · obtain ⟨hc', hf'⟩ := bcell hw'
        go_simp
        first | rfl | exact ⟨rfl, rfl⟩ | exact ⟨rfl⟩
      clear hK K
      refine wpQuiet_step (fun K hK => ?_)
      go_simp
      refine ⟨_, fun w' hw' => rfl, hK _ ?_⟩
      clear hK K
      refine wpQuiet_step (fun K hK => ?_)
      go_simp
      apply Exists.intro
      refine And.intro (fun w' hw' => ?_) (hK _ ?_)
      · refine (((unhide HL) ▸ isLiving_any (some ⟨lb, lo, none⟩) lc (some ⟨b, off, none⟩) ic xa xc d ((q : Int) + 1) _ ((unhide HDr).below hw') (unhide HS))).mono ?_
        rintro e w'' ⟨rfl, hb⟩
        exact ⟨rfl, hw'.trans (hb.mono hw'.size)⟩
      clear hK K
      refine wpQuiet_step (fun K hK => ?_)
      go_simp
      refine ⟨_, fun w' hw' => rfl, hK _ ?_⟩
      clear hK K
      refine wpQuiet_step (fun K hK => ?_)
      go_simp
      refine ⟨_, fun w' hw' => rfl, hK _ ?_⟩
      clear hK K
      refine wpQuiet_step (fun K hK => ?_)
      go_simp
      refine ⟨_, fun w' hw' => rfl, hK _ ?_⟩
      clear hK K
      refine wpQuiet_step (fun K hK => ?_)
      go_simp
      refine ⟨_, fun w' hw' => rfl, hK _ ?_⟩
      clear hK K
      refine wpQuiet_step (fun K hK => ?_)
      go_simp
      apply Exists.intro
      refine And.intro (fun w' hw' => ?_) (hK _ ?_)
      · obtain ⟨hc', hf'⟩ := bcell hw'
        go_simp
        first | rfl | exact ⟨rfl, rfl⟩ | exact ⟨rfl⟩
      clear hK K
      refine wpQuiet_step (fun K hK => ?_)
      go_simp
      refine ⟨_, fun w' hw' => rfl, hK _ ?_⟩
      clear hK K
      refine wpQuiet_step (fun K hK => ?_)
      go_simp
      refine ⟨_, fun w' hw' => rfl, hK _ ?_⟩
      clear hK K
      refine wpQuiet_step (fun K hK => ?_)
      go_simp
      refine ⟨_, fun w' hw' => rfl, hK _ ?_⟩
      clear hK K
      refine wpQuiet_step (fun K hK => ?_)
      go_simp
      refine ⟨_, fun w' hw' => rfl, hK _ ?_⟩
      clear hK K
      refine wpQuiet_step (fun K hK => ?_)
      go_simp
      apply Exists.intro
      refine And.intro (fun w' hw' => ?_) (hK _ ?_)
      · obtain ⟨hc', hf'⟩ := bcell hw'
        go_simp
        first | rfl | exact ⟨rfl, rfl⟩ | exact ⟨rfl⟩
      clear hK K
      refine wpQuiet_step (fun K hK => ?_)
      go_simp
      refine ⟨_, fun w' hw' => rfl, hK _ ?_⟩
      clear hK K
      refine wpQuiet_step (fun K hK => ?_)
      go_simp
      refine ⟨_, fun w' hw' => rfl, hK _ ?_⟩
      clear hK K
      refine wpQuiet_step (fun K hK => ?_)
      go_simp
      apply Exists.intro
      refine And.intro (fun w' hw' => ?_) (hK _ ?_)
      · refine (intValue_any ((k : Int) + 1) _).mono ?_
        rintro e w'' ⟨rfl, hb⟩
        exact ⟨rfl, hw'.trans (hb.mono hw'.size)⟩
      clear hK K
      refine wpQuiet_step (fun K hK => ?_)
      go_simp
      refine ⟨_, fun w' hw' => rfl, hK _ ?_⟩
      clear hK K
      refine wpQuiet_step (fun K hK => ?_)
      go_simp
      refine ⟨_, fun w' hw' => rfl, hK _ ?_⟩
      clear hK K
      refine wpQuiet_nil ?_
      intro w2 hw2
      have HB2 := hide ((unhide HB).trans (hw2.mono hbsz))
      have hsz2 : w.heap.size < w2.heap.size := Nat.lt_of_lt_of_le hwz hw2.size
      have g0 := (hw2.cell (p := ⟨w.heap.size, 0, none⟩) hwz).trans c0
      have g1 := (hw2.cell (p := ⟨w.heap.size, 1, none⟩) hwz).trans c1
      have g2 := (hw2.cell (p := ⟨w.heap.size, 2, none⟩) hwz).trans c2
      have g3 := (hw2.cell (p := ⟨w.heap.size, 3, none⟩) hwz).trans c3
      have g4 := (hw2.cell (p := ⟨w.heap.size, 4, none⟩) hwz).trans c4
      have g5 := (hw2.cell (p := ⟨w.heap.size, 5, none⟩) hwz).trans c5
      clear hw2 c0 c1 c2 c3 c4 c5
      go_wp2
      go_roundw
      case rel => exact ⟨k + 1, by omega, by go_num, fun j hj => (by by_cases e : j = k; exact e ▸ unhide HO; exact unhide HALL j (by omega)), hsz2, g0, g1, g2, g3, g4, g5, unhide HB2⟩
      case measure => simp [intOf]; omega
    · have HT := hide (not_D3 hkn (fun h => hk2 ((unhide HOI).1 h)))
      by_cases k1 : (d.L q).key.kind = 2
      · obtain ⟨f1, f2, f3⟩ := int_key (unhide HKEY) k1
        have k2 : ((d.L q).key.num == (k : Int) + 1) = false := by simp; exact fun h => hk2 ⟨k1, h⟩
        rw [k1] at e1
        rw [f3] at e5
        clear k1 hk2 f3
        go_wp2_with fail
        refine wp_region_quiet (C := fun w' => Below wr.heap.size wr w') (by kernel_rfl) (by kernel_rfl) ((Below.refl _ _).drew) ?_
        show wpQuiet _ _ _ _ [_, _, _, _, _, _, _, _, _, _, _, _, _, _, _, _, _, _] _
        refine wpQuiet_step (fun K hK => ?_)
        go_simp
        apply Exists.intro
        refine And.intro (fun w' hw' => ?_) (hK _ ?_)
        · obtain ⟨hc', hf'⟩ := bcell hw'
          go_simp
          first | rfl | exact ⟨rfl, rfl⟩ | exact ⟨rfl⟩
        clear hK K
        refine wpQuiet_step (fun K hK => ?_)
        go_simp
        refine ⟨_, fun w' hw' => rfl, hK _ ?_⟩
        clear hK K
        refine wpQuiet_step (fun K hK => ?_)
        go_simp
        apply Exists.intro
        refine And.intro (fun w' hw' => ?_) (hK _ ?_)
        · refine (((unhide HL) ▸ isLiving_any (some ⟨lb, lo, none⟩) lc (some ⟨b, off, none⟩) ic xa xc d ((q : Int) + 1) _ ((unhide HDr).below hw') (unhide HS))).mono ?_
          rintro e w'' ⟨rfl, hb⟩
          exact ⟨rfl, hw'.trans (hb.mono hw'.size)⟩
        clear hK K
        refine wpQuiet_step (fun K hK => ?_)
        go_simp
        refine ⟨_, fun w' hw' => rfl, hK _ ?_⟩
        clear hK K
        refine wpQuiet_step (fun K hK => ?_)
        go_simp
        refine ⟨_, fun w' hw' => rfl, hK _ ?_⟩
        clear hK K
        refine wpQuiet_step (fun K hK => ?_)
        go_simp
        refine ⟨_, fun w' hw' => rfl, hK _ ?_⟩
        clear hK K
        refine wpQuiet_step (fun K hK => ?_)
        go_simp
        refine ⟨_, fun w' hw' => rfl, hK _ ?_⟩
        clear hK K
        refine wpQuiet_step (fun K hK => ?_)
        go_simp
        apply Exists.intro
        refine And.intro (fun w' hw' => ?_) (hK _ ?_)
        · obtain ⟨hc', hf'⟩ := bcell hw'
          go_simp
          first | rfl | exact ⟨rfl, rfl⟩ | exact ⟨rfl⟩
        clear hK K
        refine wpQuiet_step (fun K hK => ?_)
        go_simp
        refine ⟨_, fun w' hw' => rfl, hK _ ?_⟩
        clear hK K
        refine wpQuiet_step (fun K hK => ?_)
        go_simp
        refine ⟨_, fun w' hw' => rfl, hK _ ?_⟩
        clear hK K
        refine wpQuiet_step (fun K hK => ?_)
        go_simp
        refine ⟨_, fun w' hw' => rfl, hK _ ?_⟩
        clear hK K
        refine wpQuiet_step (fun K hK => ?_)
        go_simp
        refine ⟨_, fun w' hw' => rfl, hK _ ?_⟩
        clear hK K
        refine wpQuiet_step (fun K hK => ?_)
        go_simp
        apply Exists.intro
        refine And.intro (fun w' hw' => ?_) (hK _ ?_)
        · obtain ⟨hc', hf'⟩ := bcell hw'
          go_simp
          first | rfl | exact ⟨rfl, rfl⟩ | exact ⟨rfl⟩
        clear hK K
        refine wpQuiet_step (fun K hK => ?_)
        go_simp
        refine ⟨_, fun w' hw' => rfl, hK _ ?_⟩
        clear hK K
        refine wpQuiet_step (fun K hK => ?_)
        go_simp
        refine ⟨_, fun w' hw' => rfl, hK _ ?_⟩
        clear hK K
        refine wpQuiet_step (fun K hK => ?_)
        go_simp
        apply Exists.intro
        refine And.intro (fun w' hw' => ?_) (hK _ ?_)
        · refine (intValue_any ((k : Int) + 1) _).mono ?_
          rintro e w'' ⟨rfl, hb⟩
          exact ⟨rfl, hw'.trans (hb.mono hw'.size)⟩
        clear hK K
        refine wpQuiet_step (fun K hK => ?_)
        go_simp
        refine ⟨_, fun w' hw' => rfl, hK _ ?_⟩
        clear hK K
        refine wpQuiet_step (fun K hK => ?_)
        go_simp
        refine ⟨_, fun w' hw' => rfl, hK _ ?_⟩
        clear hK K
        refine wpQuiet_nil ?_
        intro w2 hw2
        have HB2 := hide ((unhide HB).trans (hw2.mono hbsz))
        clear hw2
        go_wp2
        go_ret
        exact ⟨by rw [unhide HT]; rfl, unhide HB2⟩
      · have k1' : ((d.L q).key.kind == 2) = false := by simp [k1]
        clear k1 hk2
        go_wp2_with fail
        refine wp_region_quiet (C := fun w' => Below wr.heap.size wr w') (by kernel_rfl) (by kernel_rfl) ((Below.refl _ _).drew) ?_
        show wpQuiet _ _ _ _ [_, _, _, _, _, _, _, _, _, _, _, _, _, _, _, _, _, _] _
        refine wpQuiet_step (fun K hK => ?_)
        go_simp
        apply Exists.intro
        refine And.intro (fun w' hw' => ?_) (hK _ ?_)
        · obtain ⟨hc', hf'⟩ := bcell hw'
          go_simp
          first | rfl | exact ⟨rfl, rfl⟩ | exact ⟨rfl⟩
        clear hK K
        refine wpQuiet_step (fun K hK => ?_)
        go_simp
        refine ⟨_, fun w' hw' => rfl, hK _ ?_⟩
        clear hK K
        refine wpQuiet_step (fun K hK => ?_)
        go_simp
        apply Exists.intro
        refine And.intro (fun w' hw' => ?_) (hK _ ?_)
        · refine (((unhide HL) ▸ isLiving_any (some ⟨lb, lo, none⟩) lc (some ⟨b, off, none⟩) ic xa xc d ((q : Int) + 1) _ ((unhide HDr).below hw') (unhide HS))).mono ?_
          rintro e w'' ⟨rfl, hb⟩
          exact ⟨rfl, hw'.trans (hb.mono hw'.size)⟩
        clear hK K
        refine wpQuiet_step (fun K hK => ?_)
        go_simp
        refine ⟨_, fun w' hw' => rfl, hK _ ?_⟩
        clear hK K
        refine wpQuiet_step (fun K hK => ?_)
        go_simp
        refine ⟨_, fun w' hw' => rfl, hK _ ?_⟩
        clear hK K
        refine wpQuiet_step (fun K hK => ?_)
        go_simp
        refine ⟨_, fun w' hw' => rfl, hK _ ?_⟩
        clear hK K
        refine wpQuiet_step (fun K hK => ?_)
        go_simp
        refine ⟨_, fun w' hw' => rfl, hK _ ?_⟩
        clear hK K
        refine wpQuiet_step (fun K hK => ?_)
        go_simp
        apply Exists.intro
        refine And.intro (fun w' hw' => ?_) (hK _ ?_)
        · obtain ⟨hc', hf'⟩ := bcell hw'
          go_simp
          first | rfl | exact ⟨rfl, rfl⟩ | exact ⟨rfl⟩
        clear hK K
        refine wpQuiet_step (fun K hK => ?_)
        go_simp
        refine ⟨_, fun w' hw' => rfl, hK _ ?_⟩
        clear hK K
        refine wpQuiet_step (fun K hK => ?_)
        go_simp
        refine ⟨_, fun w' hw' => rfl, hK _ ?_⟩
        clear hK K
        refine wpQuiet_step (fun K hK => ?_)
        go_simp
        refine ⟨_, fun w' hw' => rfl, hK _ ?_⟩
        clear hK K
        refine wpQuiet_step (fun K hK => ?_)
        go_simp
        refine ⟨_, fun w' hw' => rfl, hK _ ?_⟩
        clear hK K
        refine wpQuiet_step (fun K hK => ?_)
        go_simp
        apply Exists.intro
        refine And.intro (fun w' hw' => ?_) (hK _ ?_)
        · obtain ⟨hc', hf'⟩ := bcell hw'
          go_simp
          first | rfl | exact ⟨rfl, rfl⟩ | exact ⟨rfl⟩
        clear hK K
        refine wpQuiet_step (fun K hK => ?_)
        go_simp
        refine ⟨_, fun w' hw' => rfl, hK _ ?_⟩
        clear hK K
        refine wpQuiet_step (fun K hK => ?_)
        go_simp
        refine ⟨_, fun w' hw' => rfl, hK _ ?_⟩
        clear hK K
        refine wpQuiet_step (fun K hK => ?_)
        go_simp
        apply Exists.intro
        refine And.intro (fun w' hw' => ?_) (hK _ ?_)
        · refine (intValue_any ((k : Int) + 1) _).mono ?_
          rintro e w'' ⟨rfl, hb⟩
          exact ⟨rfl, hw'.trans (hb.mono hw'.size)⟩
        clear hK K
        refine wpQuiet_step (fun K hK => ?_)
        go_simp
        refine ⟨_, fun w' hw' => rfl, hK _ ?_⟩
        clear hK K
        refine wpQuiet_step (fun K hK => ?_)
        go_simp
        refine ⟨_, fun w' hw' => rfl, hK _ ?_⟩
        clear hK K
        refine wpQuiet_nil ?_
        intro w2 hw2
        have HB2 := hide ((unhide HB).trans (hw2.mono hbsz))
        clear hw2
        go_wp2
        go_ret
        exact ⟨by rw [unhide HT]; rfl, unhide HB2⟩
end Go.Proofs.YtfceeijdmilieaaGreatDoor
namespace Go.Proofs.YtfceeijdmilieaaGreatDoor
open Go.RowKit
set_option linter.unusedVariables false
attribute [local go_sem] run_store_float run_equalIn_float

theorem size_out {d : Dc} (h : ¬ SizeX d.x) : d.x ≠ 0 ∧ (d.x < 8 ∨ 4000 < d.x ∨ (8 ≤ d.x ∧ d.x ≤ 4000 ∧ ¬ Pow2 d.x)) := by
  unfold SizeX at h
  by_cases h0 : d.x = 0
  · exact absurd (.inl h0) h
  refine ⟨h0, ?_⟩
  by_cases h1 : d.x < 8
  · exact .inl h1
  by_cases h2 : 4000 < d.x
  · exact .inr (.inl h2)
  exact .inr (.inr ⟨by omega, by omega, fun hp => h (.inr ⟨by omega, by omega, hp⟩)⟩)

set_option maxRecDepth 100000 in
set_option maxHeartbeats 2000000 in
theorem indexHolds_any (la : Option Addr) (lc : Nat) (ia : Option Addr) (ic : Nat) (xa : Option Addr) (xc : Nat) (d : Dc) (w : World) (hD : DAt w la ia xa d) (hS : Small d) (h2 : D2 d) :
    Calls Tryz.prog 214 #[Dv la lc ia ic xa xc d] w fun e w' => e = .returned (.bool (tells (D4 d))) ∧ Below w.heap.size w w' := by
  have hn := hS.n
  have hm := hS.m
  have hx := hS.x
  have HD := hide hD
  have HS := hide hS
  have H2 := hide h2
  clear hD hS h2
  have hb1 : ∀ o, Below w.heap.size w (w.alloc o) := fun o => (Below.refl _ _).alloc (Nat.le_refl _) _
  have HBA := hide hb1
  clear hb1
  by_cases hsx : SizeX d.x
  case neg =>
    have HT := hide (not_D4' (d := d) hsx)
    obtain ⟨h0, h1⟩ := size_out hsx
    have h0' : ((d.x : Int) != 0) = true := by simp [h0]
    clear hsx h0
    rcases h1 with h1 | h1 | ⟨h1, h2, h3⟩
    · go_enter Tryz.func214, Tryz.ntmps214
      go_wp2
      go_ret
      exact ⟨by rw [unhide HT]; rfl, unhide HBA _⟩
    · have h1' : ¬ (d.x : Int) < 8 := by omega
      go_enter Tryz.func214, Tryz.ntmps214
      go_wp2
      go_ret
      exact ⟨by rw [unhide HT]; rfl, unhide HBA _⟩
    · have hp : (pop (d.x : Int) != 1) = true := by
        simp only [bne_iff_ne, ne_eq]
        exact fun h => h3 ((pop_iff h2).1 h)
      have h1' : ¬ (d.x : Int) < 8 := by omega
      clear h3
      generalize hpp : pop (d.x : Int) = pp at hp
      have HPP := hide hpp
      clear hpp
      go_enter Tryz.func214, Tryz.ntmps214
      go_wp2_with (go_at_call 237; refine (onesCount_any d.x h2 _).mono ?_; rintro e w1 ⟨rfl, rfl⟩; rw [unhide HPP])
      go_ret
      exact ⟨by rw [unhide HT]; rfl, unhide HBA _⟩
  have HSX := hide hsx
  obtain ⟨br, hbr⟩ : ∃ br : Bool, br = decide (d.x = 0) := ⟨_, rfl⟩
  go_enter Tryz.func214, Tryz.ntmps214
  clear hbr
  by_cases h0 : d.x = 0
  · have h0' : ((d.x : Int) != 0) = false := by simp [h0]
    have h0'' : ¬ (0 : Int) < d.x := by omega
    have HX0 := hide h0
    clear h0 hsx
    go_wp2_with fail
    go_loopw [4, 31] (fun u i wr => u = .int .i64 0 ∧ i = .int .i64 0 ∧ wr.cell? ⟨w.heap.size, 3, none⟩ = some (.int .i64 d.used) ∧ Below w.heap.size w wr) (fun _ _ _ => 0)
    case atStart => exact ⟨rfl, rfl, by simp [go_sem], unhide HBA _⟩
    case round =>
      obtain ⟨rfl, rfl, c3, hb⟩ := hrel
      have hle : (0 : Int) ≤ d.x := by omega
      have HB := hide hb
      clear hb
      by_cases hu : (0 : Int) = d.used
      · have HT := hide (tells_yes (p := D4 d) ⟨.inl (unhide HX0), fun j hj => by have := unhide HX0; omega, by rw [unhide HX0]; exact hu, by rw [unhide HX0]; exact Nat.le_refl _⟩)
        rw [← hu] at c3
        clear hu
        go_wp2
        go_ret
        exact ⟨by rw [unhide HT]; rfl, unhide HB⟩
      · have HT := hide (tells_no (p := D4 d) (fun h => by have := h.2.2.1; rw [unhide HX0] at this; exact hu this))
        have hu' : ((0 : Int) == d.used) = false := by simp [hu]
        clear hu
        go_wp2
        go_ret
        exact ⟨by rw [unhide HT]; rfl, unhide HB⟩
  have hsz : 8 ≤ d.x ∧ d.x ≤ 4000 ∧ Pow2 d.x := hsx.resolve_left h0
  have h0' : ((d.x : Int) != 0) = true := by simp [h0]
  have h1' : ¬ (d.x : Int) < 8 := by omega
  have hx2 := hsz.2.1
  have h3' : ¬ (4000 : Int) < d.x := by omega
  have HPP := hide ((pop_iff hsz.2.1).2 hsz.2.2)
  clear hsx h0 hsz
  go_wp2_with (go_at_call 237; refine (onesCount_any d.x hx2 _).mono ?_; rintro e w1 ⟨rfl, rfl⟩; rw [unhide HPP])
  go_loopw [4, 31] (fun u i wr => ∃ k : Nat, k ≤ d.x ∧ i = .int .i64 k ∧ u = .int .i64 (usedTo d k) ∧ (∀ j, j < k → okSlot d j) ∧ w.heap.size < wr.heap.size ∧ wr.cell? ⟨w.heap.size, 0, none⟩ = some (.slice la d.n lc) ∧ wr.cell? ⟨w.heap.size, 1, none⟩ = some (.slice ia d.m ic) ∧ wr.cell? ⟨w.heap.size, 2, none⟩ = some (.slice xa d.x xc) ∧ wr.cell? ⟨w.heap.size, 3, none⟩ = some (.int .i64 d.used) ∧ wr.cell? ⟨w.heap.size, 4, none⟩ = some (.int .i64 d.live) ∧ wr.cell? ⟨w.heap.size, 5, none⟩ = some (.int .i64 d.turns) ∧ Below w.heap.size w wr) (fun _ i _ => d.x - (intOf i).toNat)
  case atStart => exact ⟨0, by omega, rfl, rfl, fun j hj => by omega, by simp, by simp [go_sem], by simp [go_sem], by simp [go_sem], by simp [go_sem], by simp [go_sem], by simp [go_sem], unhide HBA _⟩
  case round =>
    obtain ⟨k, hk, rfl, rfl, hall, hwz, c0, c1, c2, c3, c4, c5, hb⟩ := hrel
    have hul := usedTo_le d k
    have HALL := hide hall
    clear hall
    by_cases hkn : k < d.x
    case neg =>
      have hkn' : k = d.x := by omega
      subst hkn'
      have HB := hide hb
      clear hb
      by_cases h1 : (usedTo d d.x : Int) = d.used
      case neg =>
        have HT := hide (tells_no (p := D4 d) (fun h => h1 h.2.2.1))
        have h1' : ((usedTo d d.x : Int) == d.used) = false := by simp [h1]
        clear h1
        go_wp2
        go_ret
        exact ⟨by rw [unhide HT]; rfl, unhide HB⟩
      have h1' : ((usedTo d d.x : Int) == d.used) = true := by simp [h1]
      by_cases h2 : 2 * usedTo d d.x ≤ d.x
      · have HT := hide (tells_yes (p := D4 d) ⟨unhide HSX, unhide HALL, h1, h2⟩)
        have h2' : decide (2 * (usedTo d d.x : Int) ≤ d.x) = true := by simp; omega
        clear h1 h2
        go_wp2
        go_ret
        exact ⟨by rw [unhide HT]; simp, unhide HB⟩
      · have HT := hide (tells_no (p := D4 d) (fun h => h2 h.2.2.2))
        have h2' : decide (2 * (usedTo d d.x : Int) ≤ d.x) = false := by simp; omega
        clear h1 h2
        go_wp2
        go_ret
        exact ⟨by rw [unhide HT]; simp, unhide HB⟩
    obtain ⟨b, off, hxa, hbl, hcs⟩ := (unhide HD).index.resolve_left (by omega)
    subst hxa
    have e0 := (hb.cell (p := ⟨b, off + k, none⟩) hbl).trans (hcs k hkn)
    have HB := hide hb
    have HDr := hide ((unhide HD).below hb)
    have hbsz := hb.size
    clear hcs hb
    by_cases p3 : d.X k = 0
    · have HO : Hid (okSlot d k) := hide (.inl p3)
      have HU : Hid (usedTo d (k + 1) = usedTo d k) := hide (by show (if d.X k = 0 then _ else _) = _; rw [if_pos p3])
      rw [p3] at e0
      clear p3
      go_wp2
      go_roundw
      case rel => exact ⟨k + 1, by omega, by go_num, by rw [unhide HU], fun j hj => (by by_cases e : j = k; exact e ▸ unhide HO; exact unhide HALL j (by omega)), hwz, c0, c1, c2, c3, c4, c5, unhide HB⟩
      case measure => simp [intOf]; omega
    have HU : Hid (usedTo d (k + 1) = usedTo d k + 1) := hide (by show (if d.X k = 0 then _ else _) = _; rw [if_neg p3])
    by_cases p4 : d.X k = -1
    · have HO : Hid (okSlot d k) := hide (.inr (.inl p4))
      rw [p4] at e0
      clear p3 p4
      go_wp2
      go_roundw
      case rel => exact ⟨k + 1, by omega, by go_num, by rw [unhide HU]; go_num, fun j hj => (by by_cases e : j = k; exact e ▸ unhide HO; exact unhide HALL j (by omega)), hwz, c0, c1, c2, c3, c4, c5, unhide HB⟩
      case measure => simp [intOf]; omega
    have p3' : (d.X k == 0) = false := by simp [p3]
    have p4' : (d.X k == -1) = false := by simp [p4]
    by_cases hl : livingK d (d.X k)
    case neg =>
      have HT := hide (not_D4 hkn (fun h => by
        rcases h with h | h | h
        · exact p3 h
        · exact p4 h
        · exact hl ⟨by omega, h.2.1, h.2.2.1⟩))
      have HL := hide (tells_no hl)
      clear hl p3 p4
      go_wp2_with fail
      refine wp_region_quiet (C := fun w' => Below wr.heap.size wr w') (by kernel_rfl) (by kernel_rfl) ((Below.refl _ _).drew) ?_
      show wpQuiet _ _ _ _ [_, _, _, _, _, _, _, _, _, _, _, _, _, _, _, _, _, _, _] _
      refine wpQuiet_step (fun K hK => ?_)
      go_simp
      apply Exists.intro
      refine And.intro (fun w' hw' => ?_) (hK _ ?_)
      · obtain ⟨hc', hf'⟩ := bcell hw'
        go_simp
        first | rfl | exact ⟨rfl, rfl⟩ | exact ⟨rfl⟩
      clear hK K
      refine wpQuiet_step (fun K hK => ?_)
      go_simp
      refine ⟨_, fun w' hw' => rfl, hK _ ?_⟩
      clear hK K
      refine wpQuiet_step (fun K hK => ?_)
      go_simp
      apply Exists.intro
      refine And.intro (fun w' hw' => ?_) (hK _ ?_)
      · refine (((unhide HL) ▸ isLiving_any la lc ia ic (some ⟨b, off, none⟩) xc d (d.X k) _ ((unhide HDr).below hw') (unhide HS))).mono ?_
        rintro e w'' ⟨rfl, hb⟩
        exact ⟨rfl, hw'.trans (hb.mono hw'.size)⟩
      clear hK K
      refine wpQuiet_step (fun K hK => ?_)
      go_simp
      refine ⟨_, fun w' hw' => rfl, hK _ ?_⟩
      clear hK K
      refine wpQuiet_step (fun K hK => ?_)
      go_simp
      refine ⟨_, fun w' hw' => rfl, hK _ ?_⟩
      clear hK K
      go_big_quiet_step (fail)
      go_big_quiet_step (fail)
      go_big_quiet_step (fail)
      go_big_quiet_step (fail)
      go_big_quiet_step (fail)
      go_big_quiet_step (fail)
      go_big_quiet_step (fail)
      go_big_quiet_step (fail)
      go_big_quiet_step (fail)
      go_big_quiet_step (fail)
      go_big_quiet_step (fail)
      go_big_quiet_step (fail)
      go_big_quiet_step (fail)
      refine wpQuiet_step (fun K hK => ?_)
      go_simp
      refine ⟨_, fun w' hw' => rfl, hK _ ?_⟩
      clear hK K
      refine wpQuiet_nil ?_
      intro w2 hw2
      have HB2 := hide ((unhide HB).trans (hw2.mono hbsz))
      clear hw2
      go_wp2
      go_ret
      exact ⟨by rw [unhide HT]; rfl, unhide HB2⟩
    have HL := hide (tells_yes hl)
    obtain ⟨q, hq⟩ : ∃ q : Nat, d.X k = (q : Int) + 1 := ⟨(d.X k - 1).toNat, by have := hl.1; omega⟩
    have hqn : q < d.n := by have := hl.2.1; omega
    have hA : d.at (d.X k) = d.L q := by unfold Dc.at; rw [hq]; congr 1; omega
    have htq : (d.L q).turn ≠ 0 := hA ▸ hl.2.2
    obtain ⟨lb, lo, hla, hll, hls⟩ := (unhide HD).log.resolve_left (by omega)
    subst hla
    obtain ⟨e1, e2, e3, e4, e5, _, _, _, _, _, _⟩ := (hls q hqn).keep (fun q => (unhide HB).cell (p := ⟨lb, q, none⟩) hll)
    have hlw : lb < wr.heap.size := Nat.lt_of_lt_of_le hll hbsz
    have HOI : Hid (okSlot d k ↔ ¬ smallK d.m (d.L q).key) := hide ⟨fun h => by
        rcases h with h | h | h
        · omega
        · omega
        · rw [hA] at h; exact h.2.2.2, fun h => .inr (.inr ⟨by omega, by omega, by rw [hA]; exact htq, by rw [hA]; exact h⟩)⟩
    rw [hq] at e0 p3' p4' HL
    have hwq : IntKind.i64.wrap (q : Int) = q := by rw [IntKind.wrap_i64]; omega
    clear hls hl p3 p4 hq hA htq
    by_cases hsm : smallK d.m (d.L q).key
    · have HT := hide (not_D4 hkn (fun h => (unhide HOI).1 h hsm))
      have HSM := hide (tells_yes hsm)
      clear hsm
      go_wp2_with fail
      refine wp_region_quiet (C := fun w' => Below wr.heap.size wr w') (by kernel_rfl) (by kernel_rfl) ((Below.refl _ _).drew) ?_
      show wpQuiet _ _ _ _ [_, _, _, _, _, _, _, _, _, _, _, _, _, _, _, _, _, _, _] _
      refine wpQuiet_step (fun K hK => ?_)
      go_simp
      apply Exists.intro
      refine And.intro (fun w' hw' => ?_) (hK _ ?_)
      · obtain ⟨hc', hf'⟩ := bcell hw'
        go_simp
        first | rfl | exact ⟨rfl, rfl⟩ | exact ⟨rfl⟩
      clear hK K
      refine wpQuiet_step (fun K hK => ?_)
      go_simp
      refine ⟨_, fun w' hw' => rfl, hK _ ?_⟩
      clear hK K
      refine wpQuiet_step (fun K hK => ?_)
      go_simp
      apply Exists.intro
      refine And.intro (fun w' hw' => ?_) (hK _ ?_)
      · refine (((unhide HL) ▸ isLiving_any (some ⟨lb, lo, none⟩) lc ia ic (some ⟨b, off, none⟩) xc d ((q : Int) + 1) _ ((unhide HDr).below hw') (unhide HS))).mono ?_
        rintro e w'' ⟨rfl, hb⟩
        exact ⟨rfl, hw'.trans (hb.mono hw'.size)⟩
      clear hK K
      refine wpQuiet_step (fun K hK => ?_)
      go_simp
      refine ⟨_, fun w' hw' => rfl, hK _ ?_⟩
      clear hK K
      refine wpQuiet_step (fun K hK => ?_)
      go_simp
      refine ⟨_, fun w' hw' => rfl, hK _ ?_⟩
      clear hK K
      refine wpQuiet_step (fun K hK => ?_)
      go_simp
      refine ⟨_, fun w' hw' => rfl, hK _ ?_⟩
      clear hK K
      refine wpQuiet_step (fun K hK => ?_)
      go_simp
      refine ⟨_, fun w' hw' => rfl, hK _ ?_⟩
      clear hK K
      refine wpQuiet_step (fun K hK => ?_)
      go_simp
      apply Exists.intro
      refine And.intro (fun w' hw' => ?_) (hK _ ?_)
      · obtain ⟨hc', hf'⟩ := bcell hw'
        go_simp
        first | rfl | exact ⟨rfl, rfl⟩ | exact ⟨rfl⟩
      clear hK K
      refine wpQuiet_step (fun K hK => ?_)
      go_simp
      refine ⟨_, fun w' hw' => rfl, hK _ ?_⟩
      clear hK K
      refine wpQuiet_step (fun K hK => ?_)
      go_simp
      refine ⟨_, fun w' hw' => rfl, hK _ ?_⟩
      clear hK K
      refine wpQuiet_step (fun K hK => ?_)
      go_simp
      refine ⟨_, fun w' hw' => rfl, hK _ ?_⟩
      clear hK K
      refine wpQuiet_step (fun K hK => ?_)
      go_simp
      refine ⟨_, fun w' hw' => rfl, hK _ ?_⟩
      clear hK K
      refine wpQuiet_step (fun K hK => ?_)
      go_simp
      apply Exists.intro
      refine And.intro (fun w' hw' => ?_) (hK _ ?_)
      · obtain ⟨hc', hf'⟩ := bcell hw'
        go_simp
        first | rfl | exact ⟨rfl, rfl⟩ | exact ⟨rfl⟩
      clear hK K
      refine wpQuiet_step (fun K hK => ?_)
      go_simp
      refine ⟨_, fun w' hw' => rfl, hK _ ?_⟩
      clear hK K
      refine wpQuiet_step (fun K hK => ?_)
      go_simp
      refine ⟨_, fun w' hw' => rfl, hK _ ?_⟩
      clear hK K
      refine wpQuiet_step (fun K hK => ?_)
      go_simp
      apply Exists.intro
      refine And.intro (fun w' hw' => ?_) (hK _ ?_)
      · obtain ⟨hc', hf'⟩ := bcell hw'
        go_simp
        first | rfl | exact ⟨rfl, rfl⟩ | exact ⟨rfl⟩
      clear hK K
      refine wpQuiet_step (fun K hK => ?_)
      go_simp
      refine ⟨_, fun w' hw' => rfl, hK _ ?_⟩
      clear hK K
      refine wpQuiet_step (fun K hK => ?_)
      go_simp
      apply Exists.intro
      refine And.intro (fun w' hw' => ?_) (hK _ ?_)
      · refine (((unhide HSM) ▸ hasPlace_any (d.L q).key d.m _ hm)).mono ?_
        rintro e w'' ⟨rfl, hb⟩
        exact ⟨rfl, hw'.trans (hb.mono hw'.size)⟩
      clear hK K
      refine wpQuiet_step (fun K hK => ?_)
      go_simp
      refine ⟨_, fun w' hw' => rfl, hK _ ?_⟩
      clear hK K
      refine wpQuiet_nil ?_
      intro w2 hw2
      have HB2 := hide ((unhide HB).trans (hw2.mono hbsz))
      clear hw2
      go_wp2
      go_ret
      exact ⟨by rw [unhide HT]; rfl, unhide HB2⟩
    · have HO : Hid (okSlot d k) := hide ((unhide HOI).2 hsm)
      have HSM := hide (tells_no hsm)
      clear hsm
      go_wp2_with fail
      refine wp_region_quiet (C := fun w' => Below wr.heap.size wr w') (by kernel_rfl) (by kernel_rfl) ((Below.refl _ _).drew) ?_
      show wpQuiet _ _ _ _ [_, _, _, _, _, _, _, _, _, _, _, _, _, _, _, _, _, _, _] _
      refine wpQuiet_step (fun K hK => ?_)
      go_simp
      apply Exists.intro
      refine And.intro (fun w' hw' => ?_) (hK _ ?_)
      · obtain ⟨hc', hf'⟩ := bcell hw'
        go_simp
        first | rfl | exact ⟨rfl, rfl⟩ | exact ⟨rfl⟩
      clear hK K
      refine wpQuiet_step (fun K hK => ?_)
      go_simp
      refine ⟨_, fun w' hw' => rfl, hK _ ?_⟩
      clear hK K
      refine wpQuiet_step (fun K hK => ?_)
      go_simp
      apply Exists.intro
      refine And.intro (fun w' hw' => ?_) (hK _ ?_)
      · refine (((unhide HL) ▸ isLiving_any (some ⟨lb, lo, none⟩) lc ia ic (some ⟨b, off, none⟩) xc d ((q : Int) + 1) _ ((unhide HDr).below hw') (unhide HS))).mono ?_
        rintro e w'' ⟨rfl, hb⟩
        exact ⟨rfl, hw'.trans (hb.mono hw'.size)⟩
      clear hK K
      refine wpQuiet_step (fun K hK => ?_)
      go_simp
      refine ⟨_, fun w' hw' => rfl, hK _ ?_⟩
      clear hK K
      refine wpQuiet_step (fun K hK => ?_)
      go_simp
      refine ⟨_, fun w' hw' => rfl, hK _ ?_⟩
      clear hK K
      refine wpQuiet_step (fun K hK => ?_)
      go_simp
      refine ⟨_, fun w' hw' => rfl, hK _ ?_⟩
      clear hK K
      refine wpQuiet_step (fun K hK => ?_)
      go_simp
      refine ⟨_, fun w' hw' => rfl, hK _ ?_⟩
      clear hK K
      refine wpQuiet_step (fun K hK => ?_)
      go_simp
      apply Exists.intro
      refine And.intro (fun w' hw' => ?_) (hK _ ?_)
      · obtain ⟨hc', hf'⟩ := bcell hw'
        go_simp
        first | rfl | exact ⟨rfl, rfl⟩ | exact ⟨rfl⟩
      clear hK K
      refine wpQuiet_step (fun K hK => ?_)
      go_simp
      refine ⟨_, fun w' hw' => rfl, hK _ ?_⟩
      clear hK K
      refine wpQuiet_step (fun K hK => ?_)
      go_simp
      refine ⟨_, fun w' hw' => rfl, hK _ ?_⟩
      clear hK K
      refine wpQuiet_step (fun K hK => ?_)
      go_simp
      refine ⟨_, fun w' hw' => rfl, hK _ ?_⟩
      clear hK K
      refine wpQuiet_step (fun K hK => ?_)
      go_simp
      refine ⟨_, fun w' hw' => rfl, hK _ ?_⟩
      clear hK K
      refine wpQuiet_step (fun K hK => ?_)
      go_simp
      apply Exists.intro
      refine And.intro (fun w' hw' => ?_) (hK _ ?_)
      · obtain ⟨hc', hf'⟩ := bcell hw'
        go_simp
        first | rfl | exact ⟨rfl, rfl⟩ | exact ⟨rfl⟩
      clear hK K
      refine wpQuiet_step (fun K hK => ?_)
      go_simp
      refine ⟨_, fun w' hw' => rfl, hK _ ?_⟩
      clear hK K
      refine wpQuiet_step (fun K hK => ?_)
      go_simp
      refine ⟨_, fun w' hw' => rfl, hK _ ?_⟩
      clear hK K
      refine wpQuiet_step (fun K hK => ?_)
      go_simp
      apply Exists.intro
      refine And.intro (fun w' hw' => ?_) (hK _ ?_)
      · obtain ⟨hc', hf'⟩ := bcell hw'
        go_simp
        first | rfl | exact ⟨rfl, rfl⟩ | exact ⟨rfl⟩
      clear hK K
      refine wpQuiet_step (fun K hK => ?_)
      go_simp
      refine ⟨_, fun w' hw' => rfl, hK _ ?_⟩
      clear hK K
      refine wpQuiet_step (fun K hK => ?_)
      go_simp
      apply Exists.intro
      refine And.intro (fun w' hw' => ?_) (hK _ ?_)
      · refine (((unhide HSM) ▸ hasPlace_any (d.L q).key d.m _ hm)).mono ?_
        rintro e w'' ⟨rfl, hb⟩
        exact ⟨rfl, hw'.trans (hb.mono hw'.size)⟩
      clear hK K
      refine wpQuiet_step (fun K hK => ?_)
      go_simp
      refine ⟨_, fun w' hw' => rfl, hK _ ?_⟩
      clear hK K
      refine wpQuiet_nil ?_
      intro w2 hw2
      have HB2 := hide ((unhide HB).trans (hw2.mono hbsz))
      have hsz2 : w.heap.size < w2.heap.size := Nat.lt_of_lt_of_le hwz hw2.size
      have g0 := (hw2.cell (p := ⟨w.heap.size, 0, none⟩) hwz).trans c0
      have g1 := (hw2.cell (p := ⟨w.heap.size, 1, none⟩) hwz).trans c1
      have g2 := (hw2.cell (p := ⟨w.heap.size, 2, none⟩) hwz).trans c2
      have g3 := (hw2.cell (p := ⟨w.heap.size, 3, none⟩) hwz).trans c3
      have g4 := (hw2.cell (p := ⟨w.heap.size, 4, none⟩) hwz).trans c4
      have g5 := (hw2.cell (p := ⟨w.heap.size, 5, none⟩) hwz).trans c5
      clear hw2 c0 c1 c2 c3 c4 c5
      go_wp2
      go_roundw
      case rel => exact ⟨k + 1, by omega, by go_num, by rw [unhide HU]; go_num, fun j hj => (by by_cases e : j = k; exact e ▸ unhide HO; exact unhide HALL j (by omega)), hsz2, g0, g1, g2, g3, g4, g5, unhide HB2⟩
      case measure => simp [intOf]; omega
end Go.Proofs.YtfceeijdmilieaaGreatDoor
