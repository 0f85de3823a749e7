/-
  DiA, DiB, DiC, DiD, DiE, DiF in one text.
-/
import Derived.Test.YtglcaejddckleaaGreatDoorDcI
import Derived.BigRegion
namespace Go.Proofs.YtglcaejddckleaaGreatDoor
open Go.RowKit
set_option linter.unusedVariables false
attribute [local go_sem] run_store_float run_equalIn_float

def popA (x : Int) : Int := IntKind.u64.wrap (bits BinOp.and IntKind.u64 (x / 2) 6148914691236517205 + bits BinOp.and IntKind.u64 x 6148914691236517205)
def popB (x : Int) : Int := IntKind.u64.wrap (bits BinOp.and IntKind.u64 (x / 4) 3689348814741910323 + bits BinOp.and IntKind.u64 x 3689348814741910323)
def popC (x : Int) : Int := bits BinOp.and IntKind.u64 (IntKind.u64.wrap (x / 16 + x)) 1085102592571150095
def popD (x : Int) : Int := IntKind.u64.wrap (x + x / 256)
def popE (x : Int) : Int := IntKind.u64.wrap (x + x / 65536)
def popF (x : Int) : Int := IntKind.u64.wrap (x + x / 4294967296)
def pop (x : Int) : Int := bits BinOp.and IntKind.i64 (wrap64 (popF (popE (popD (popC (popB (popA x))))))) 127

set_option maxHeartbeats 1000000 in
theorem onesCount64_any (x : Nat) (hx : x ≤ 4000) (w : World) :
    Calls Tryz.prog 128 #[.int .u64 (x : Int)] w fun e w' => e = .returned (.int .i64 (pop x)) ∧ w' = w := by
  go_enter Tryz.func128, Tryz.ntmps128
  go_wp2
  go_ret
  exact ⟨rfl, rfl⟩
set_option maxHeartbeats 1000000 in
theorem onesCount_any (x : Nat) (hx : x ≤ 4000) (w : World) :
    Calls Tryz.prog 100 #[.int .u64 (x : Int)] w fun e w' => e = .returned (.int .i64 (pop x)) ∧ w' = w := by
  go_enter Tryz.func100, Tryz.ntmps100
  go_wp2_with (go_at_call 128; refine (onesCount64_any x hx _).mono ?_; rintro e w1 ⟨rfl, rfl⟩)
  go_ret
  exact ⟨rfl, rfl⟩
set_option maxRecDepth 100000 in
theorem pop_pows : ∀ k : Nat, k < 12 → pop ((2 ^ k : Nat) : Int) = 1 := by decide +kernel
set_option maxRecDepth 100000 in
theorem pop_one : ∀ x : Nat, x < 4001 → pop (x : Int) = 1 → x ∈ [1, 2, 4, 8, 16, 32, 64, 128, 256, 512, 1024, 2048] := by decide +kernel
theorem pop_iff {x : Nat} (hx : x ≤ 4000) : pop x = 1 ↔ Pow2 x := by
  constructor
  · intro h
    have := pop_one x (by omega) h
    simp only [List.mem_cons, List.not_mem_nil, or_false] at this
    rcases this with h | h | h | h | h | h | h | h | h | h | h | h
    · exact ⟨0, h⟩
    · exact ⟨1, h⟩
    · exact ⟨2, h⟩
    · exact ⟨3, h⟩
    · exact ⟨4, h⟩
    · exact ⟨5, h⟩
    · exact ⟨6, h⟩
    · exact ⟨7, h⟩
    · exact ⟨8, h⟩
    · exact ⟨9, h⟩
    · exact ⟨10, h⟩
    · exact ⟨11, h⟩
  · rintro ⟨k, rfl⟩
    have hk : k < 12 := by
      rcases Nat.lt_or_ge k 12 with h | h
      · exact h
      · have := Nat.pow_le_pow_right (n := 2) (by decide) h
        omega
    exact pop_pows k hk

set_option maxHeartbeats 1000000 in
theorem countsFit_any (la : Option Addr) (lc : Nat) (ia : Option Addr) (ic : Nat) (xa : Option Addr) (xc : Nat) (d : Dc) (w : World) (hS : Small d) :
    Calls Tryz.prog 60 #[Dv la lc ia ic xa xc d] w fun e w' => e = .returned (.bool (tells (D1 d))) ∧ Below w.heap.size w w' := by
  have hn := hS.n
  clear hS
  have hb2 : ∀ o1 o2, Below w.heap.size w ((w.alloc o1).alloc o2) := fun o1 o2 => ((Below.refl _ _).alloc (Nat.le_refl _) _).alloc (by simp) _
  have HB := hide hb2
  clear hb2
  by_cases h1 : d.live < 0
  · have HT := hide (tells_no (p := D1 d) (fun h => by unfold D1 at h; omega))
    go_enter Tryz.func60, Tryz.ntmps60
    go_wp2
    go_ret
    exact ⟨by rw [unhide HT]; rfl, unhide HB _ _⟩
  by_cases h2 : 500 < d.live
  · have HT := hide (tells_no (p := D1 d) (fun h => by unfold D1 at h; omega))
    go_enter Tryz.func60, Tryz.ntmps60
    go_wp2
    go_ret
    exact ⟨by rw [unhide HT]; rfl, unhide HB _ _⟩
  by_cases h3 : d.turns < 0
  · have HT := hide (tells_no (p := D1 d) (fun h => by unfold D1 at h; omega))
    go_enter Tryz.func60, Tryz.ntmps60
    go_wp2
    go_ret
    exact ⟨by rw [unhide HT]; rfl, unhide HB _ _⟩
  by_cases h4 : 1000000000000 < d.turns
  · have HT := hide (tells_no (p := D1 d) (fun h => by unfold D1 at h; omega))
    go_enter Tryz.func60, Tryz.ntmps60
    go_wp2
    go_ret
    exact ⟨by rw [unhide HT]; rfl, unhide HB _ _⟩
  by_cases h5 : (d.n : Int) ≤ 8
  · have HT := hide (tells_yes (p := D1 d) ⟨by omega, by omega, by omega, by omega, .inl h5⟩)
    go_enter Tryz.func60, Tryz.ntmps60
    go_wp2
    go_ret
    exact ⟨by rw [unhide HT]; rfl, unhide HB _ _⟩
  have hw : IntKind.i64.wrap (2 * d.live) = 2 * d.live := by rw [IntKind.wrap_i64]; omega
  by_cases h6 : (d.n : Int) ≤ 2 * d.live
  · have HT := hide (tells_yes (p := D1 d) ⟨by omega, by omega, by omega, by omega, .inr h6⟩)
    have hd' : decide ((d.n : Int) ≤ 2 * d.live) = true := by simp [h6]
    go_enter Tryz.func60, Tryz.ntmps60
    go_wp2
    go_ret
    exact ⟨by rw [unhide HT]; simp, unhide HB _ _⟩
  · have HT := hide (tells_no (p := D1 d) (fun h => by unfold D1 at h; omega))
    have hd' : decide ((d.n : Int) ≤ 2 * d.live) = false := by simp [h6]
    go_enter Tryz.func60, Tryz.ntmps60
    go_wp2
    go_ret
    exact ⟨by rw [unhide HT]; simp, unhide HB _ _⟩

theorem fz_self {x : Nat} (h : fz x = true) : feq x x = true := by
  have h' : (Ieee.double.order x 0 == some .eq) = true := h
  show (Ieee.double.order x x == some .eq) = true
  rcases Fl.read_cases x with ⟨s, m, i, hr, hi, hi2, hm, _⟩ | ⟨s, hr⟩ | ⟨s, t, hr⟩
  · rw [Fl.ord_of hr hr hi hi, Fl.cmp_eq]; simp
  · exfalso
    unfold Ieee.Format.order at h'
    rw [hr, Fl.read_nil] at h'
    cases s <;> simp [Ieee.Datum.order] at h'
  · exfalso
    unfold Ieee.Format.order at h'
    rw [hr] at h'
    simp [Ieee.Datum.order] at h'

/-- A float that is a key, or that no kind uses, is itself. -/
theorem key_feq {v : Vl} (h : keyB v = true) : feq v.flt v.flt = true := by
  unfold keyB Vl.ok at h
  simp only [Bool.and_eq_true, bne_iff_ne, ne_eq, Bool.not_eq_true', Bool.and_eq_false_iff, Bool.or_eq_false_iff, beq_eq_false_iff_ne] at h
  obtain ⟨⟨hv, h0⟩, h3⟩ := h
  by_cases hk : v.kind = 3
  · rcases h3 with h3 | h3
    · exact absurd hk h3
    · have : (FloatKind.f64.format.order v.flt v.flt != some .eq) = false := h3.1
      unfold feq
      simpa using this
  · have hz : fz v.flt = true := by
      unfold validB at hv
      by_cases k1 : v.kind = 1
      · simp [k1] at hv; simp [hv]
      by_cases k2 : v.kind = 2
      · simp [k2] at hv; simp [hv]
      by_cases k4 : v.kind = 4
      · simp [k4] at hv; simp [hv]
      by_cases k5 : v.kind = 5
      · simp [k5] at hv; simp [hv]
      by_cases k6 : v.kind = 6
      · simp [k6] at hv; simp [hv]
      by_cases k7 : v.kind = 7
      · simp [k7] at hv; simp [hv]
      by_cases k8 : v.kind = 8
      · simp [k8] at hv; simp [hv]
      exfalso
      simp [h0, hk, k1, k2, k4, k5, k6, k7, k8] at hv
    exact fz_self hz
end Go.Proofs.YtglcaejddckleaaGreatDoor

namespace Go.Proofs.YtglcaejddckleaaGreatDoor
open Go.RowKit
set_option linter.unusedVariables false
attribute [local go_sem] run_store_float run_equalIn_float

set_option maxHeartbeats 1000000 in
theorem isKey_any (v : Vl) (w : World) :
    Calls Tryz.prog 98 #[V v.kind v.num v.flt v.str v.ref] w fun e w' => e = .returned (.bool (keyB v)) ∧ Below w.heap.size w w' := by
  rcases keyV_cases v with ⟨hk, he⟩ | ⟨hk, c, k, n, f, t, r, he, hc⟩
  · have HE := hide he
    have HK := hide hk
    have hfe : (FloatKind.f64.format.order v.flt v.flt == some .eq) = true := key_feq hk
    clear hk he
    go_enter Tryz.func98, Tryz.ntmps98
    go_wp2_with (go_at_call 14; refine (ikey_any v.kind v.num v.flt v.str v.ref _).mono ?_; rintro e w1 ⟨rfl, hb⟩; rw [unhide HE]; obtain ⟨hc, hf⟩ := bcell hb; have hz := hb.size; simp at hz; have hz' : w.heap.size < w1.heap.size := by omega)
    go_ret
    exact ⟨by rw [unhide HK]; simp, (((Below.refl _ _).alloc (Nat.le_refl _) _).trans (hb.mono (by simp))).alloc (by omega) _⟩
  · have HE := hide he
    have HK := hide hk
    clear hk he
    by_cases hc0 : c = 0
    · have h3 : v.kind = 3 ∧ k = 2 := hc.resolve_left (fun h => h hc0)
      obtain ⟨h3, rfl⟩ := h3
      have h3' : ((2 : Int) == v.kind) = false := by rw [h3]; rfl
      subst hc0
      clear h3 hc
      go_enter Tryz.func98, Tryz.ntmps98
      go_wp2_with (go_at_call 14; refine (ikey_any v.kind v.num v.flt v.str v.ref _).mono ?_; rintro e w1 ⟨rfl, hb⟩; rw [unhide HE]; obtain ⟨hc, hf⟩ := bcell hb; have hz := hb.size; simp at hz; have hz' : w.heap.size < w1.heap.size := by omega)
      go_ret
      exact ⟨by rw [unhide HK]; simp, (((Below.refl _ _).alloc (Nat.le_refl _) _).trans (hb.mono (by simp))).alloc (by omega) _⟩
    · have hc' : (c == 0) = false := by simp [hc0]
      clear hc0 hc
      go_enter Tryz.func98, Tryz.ntmps98
      go_wp2_with (go_at_call 14; refine (ikey_any v.kind v.num v.flt v.str v.ref _).mono ?_; rintro e w1 ⟨rfl, hb⟩; rw [unhide HE]; obtain ⟨hc, hf⟩ := bcell hb; have hz := hb.size; simp at hz; have hz' : w.heap.size < w1.heap.size := by omega)
      go_ret
      exact ⟨by rw [unhide HK]; rfl, (((Below.refl _ _).alloc (Nat.le_refl _) _).trans (hb.mono (by simp))).alloc (by omega) _⟩

/-- A pair against the zero pair, its turn being 0. -/
theorem none_eq (v : Vl) : noneB v = (v.kind == 0 && (v.num == 0 && (fz v.flt && (v.str.toList.isEmpty && v.ref == 0)))) := by
  unfold noneB Vl.ok validB
  by_cases h : v.kind = 0
  · simp [h, Bool.and_assoc]
  · have : (v.kind == 0) = false := by simp [h]
    rw [this]; rfl

set_option maxRecDepth 100000 in
set_option maxHeartbeats 2000000 in
theorem logHolds_any (la : Option Addr) (lc : Nat) (ia : Option Addr) (ic : Nat) (xa : Option Addr) (xc : Nat) (d : Dc) (w : World) (hD : DAt w la ia xa d) (hS : Small d) :
    Calls Tryz.prog 61 #[Dv la lc ia ic xa xc d] w fun e w' => e = .returned (.bool (tells (D2 d))) ∧ Below w.heap.size w w' := by
  have hn := hS.n
  have HD := hide hD
  clear hD hS
  go_enter Tryz.func61, Tryz.ntmps61
  go_wp2
  go_loopw [3, 4, 11] (fun li l i wr => ∃ (k : Nat) (live last : Int), k ≤ d.n ∧ i = .int .i64 k ∧ l = .int .i64 last ∧ li = .int .i64 live ∧ logTo d k = some (live, last) ∧ 0 ≤ live ∧ live ≤ k ∧ w.heap.size < wr.heap.size ∧ wr.cell? ⟨w.heap.size, 4, none⟩ = some (.int .i64 d.live) ∧ wr.cell? ⟨w.heap.size, 5, none⟩ = some (.int .i64 d.turns) ∧ Below w.heap.size w wr) (fun _ _ i _ => d.n - (intOf i).toNat)
  case atStart => exact ⟨0, 0, 0, by omega, rfl, rfl, rfl, rfl, by omega, by omega, by simp, by simp [go_sem], by simp [go_sem], (Below.refl _ _).alloc (Nat.le_refl _) _⟩
  case round =>
    obtain ⟨k, live, last, hk, rfl, rfl, rfl, hlog, hl0, hlk, hwz, c4, c5, hb⟩ := hrel
    have HLG := hide hlog
    clear hlog
    by_cases hkn : k < d.n
    case neg =>
      have hkn' : k = d.n := by omega
      subst hkn'
      have HB := hide hb
      clear hb
      by_cases he : live = d.live
      · have HT := hide (tells_yes (p := D2 d) ⟨last, by rw [← he]; exact unhide HLG⟩)
        have he' : (live == d.live) = true := by simp [he]
        clear he
        go_wp2
        go_ret
        exact ⟨by rw [unhide HT]; simp, unhide HB⟩
      · have HT := hide (tells_no (p := D2 d) (fun ⟨l, e⟩ => by rw [unhide HLG] at e; simp only [Option.some.injEq, Prod.mk.injEq] at e; exact he e.1))
        have he' : (live == d.live) = false := by simp [he]
        clear he
        go_wp2
        go_ret
        exact ⟨by rw [unhide HT]; simp, unhide HB⟩
    obtain ⟨b, off, rfl, hbl, hcs⟩ := (unhide HD).log.resolve_left (by omega)
    obtain ⟨e0, e1, e2, e3, e4, e5, e6, e7, e8, e9, e10⟩ := (hcs k hkn).keep (fun q => hb.cell (p := ⟨b, q, none⟩) hbl)
    have HB := hide hb
    clear hcs hb
    by_cases ht : (d.L k).turn = 0
    · have HN := hide (logTo_dead (unhide HLG) ht)
      rw [ht] at e10
      clear ht
      by_cases hz : (noneB (d.L k).key && noneB (d.L k).val) = true
      · have HT : Hid (logTo d (k + 1) = some (live, last)) := hide ((unhide HN).trans (if_pos hz))
        rw [none_eq, none_eq] at hz
        simp only [Bool.and_eq_true, beq_iff_eq] at hz
        obtain ⟨⟨a0, a1, a2, a3, a4⟩, b0, b1, b2, b3, b4⟩ := hz
        rw [a0] at e0
        rw [a1] at e1
        rw [a4] at e4
        rw [b0] at e5
        rw [b1] at e6
        rw [b4] at e9
        have a2' : (FloatKind.f64.format.order (d.L k).key.flt 0 == some .eq) = true := a2
        have b2' : (FloatKind.f64.format.order (d.L k).val.flt 0 == some .eq) = true := b2
        clear a0 a1 a4 b0 b1 b4 a2 b2
        go_wp2
        go_roundw
        case rel => exact ⟨k + 1, live, last, by omega, by go_num, rfl, rfl, unhide HT, by omega, by omega, by simp; omega, (World.cell?_alloc_lt _ _ _ (by exact hwz)).trans c4, (World.cell?_alloc_lt _ _ _ (by exact hwz)).trans c5, (unhide HB).alloc (unhide HB).size _⟩
        case measure => simp [intOf]; omega
      · have HT := hide (not_D2 hkn ((unhide HN).trans (if_neg hz)))
        rw [none_eq, none_eq] at hz
        have HZ := hide hz
        clear hz
        go_wp2_with fail
        all_goals first | (go_ret; exact ⟨by rw [unhide HT]; rfl, (unhide HB).alloc (unhide HB).size _⟩) | (exfalso; apply unhide HZ; simp_all [fz])
    · have HN := hide (logTo_live (unhide HLG) ht)
      have ht' : ((d.L k).turn == 0) = false := by simp [ht]
      clear ht
      by_cases t1 : (d.L k).turn ≤ last
      · have HT := hide (not_D2 hkn ((unhide HN).trans (if_neg (by unfold pairB; simp; intros; omega))))
        go_wp2_with fail
        go_ret
        exact ⟨by rw [unhide HT]; rfl, (unhide HB).alloc (unhide HB).size _⟩
      by_cases t2 : d.turns < (d.L k).turn
      · have HT := hide (not_D2 hkn ((unhide HN).trans (if_neg (by unfold pairB; simp; intros; omega))))
        go_wp2_with fail
        go_ret
        exact ⟨by rw [unhide HT]; rfl, (unhide HB).alloc (unhide HB).size _⟩
      obtain ⟨W, hW⟩ : ∃ W, W = wr.alloc (.cells #[.int .i64 (d.L k).key.kind, .int .i64 (d.L k).key.num, .float .f64 (d.L k).key.flt, .string (d.L k).key.str, .int .i64 (d.L k).key.ref, .int .i64 (d.L k).val.kind, .int .i64 (d.L k).val.num, .float .f64 (d.L k).val.flt, .string (d.L k).val.str, .int .i64 (d.L k).val.ref, .int .i64 (d.L k).turn] 43) := ⟨_, rfl⟩
      have HBW : Hid (Below w.heap.size w W) := hide (by rw [hW]; exact (unhide HB).alloc (unhide HB).size _)
      have hzW : wr.heap.size < W.heap.size := by rw [hW]; simp
      have y5 : W.cell? ⟨wr.heap.size, 5, none⟩ = some (.int .i64 (d.L k).val.kind) := by rw [hW]; simp [go_sem]
      have y6 : W.cell? ⟨wr.heap.size, 6, none⟩ = some (.int .i64 (d.L k).val.num) := by rw [hW]; simp [go_sem]
      have y7 : W.cell? ⟨wr.heap.size, 7, none⟩ = some (.float .f64 (d.L k).val.flt) := by rw [hW]; simp [go_sem]
      have y8 : W.cell? ⟨wr.heap.size, 8, none⟩ = some (.string (d.L k).val.str) := by rw [hW]; simp [go_sem]
      have y9 : W.cell? ⟨wr.heap.size, 9, none⟩ = some (.int .i64 (d.L k).val.ref) := by rw [hW]; simp [go_sem]
      have y10 : W.cell? ⟨wr.heap.size, 10, none⟩ = some (.int .i64 (d.L k).turn) := by rw [hW]; simp [go_sem]
      have z4 : W.cell? ⟨w.heap.size, 4, none⟩ = some (.int .i64 d.live) := by rw [hW]; exact (World.cell?_alloc_lt _ _ _ (by exact hwz)).trans c4
      have z5 : W.cell? ⟨w.heap.size, 5, none⟩ = some (.int .i64 d.turns) := by rw [hW]; exact (World.cell?_alloc_lt _ _ _ (by exact hwz)).trans c5
      go_wp2_with fail
      rw [← hW]
      clear hW
      refine (isKey_any (d.L k).key _).mono ?_
      rintro e w1 ⟨rfl, hb1⟩
      have HB1 := hide ((unhide HBW).trans (hb1.mono (unhide HBW).size))
      have x5 := (hb1.cell (p := ⟨wr.heap.size, 5, none⟩) hzW).trans y5
      have x6 := (hb1.cell (p := ⟨wr.heap.size, 6, none⟩) hzW).trans y6
      have x7 := (hb1.cell (p := ⟨wr.heap.size, 7, none⟩) hzW).trans y7
      have x8 := (hb1.cell (p := ⟨wr.heap.size, 8, none⟩) hzW).trans y8
      have x9 := (hb1.cell (p := ⟨wr.heap.size, 9, none⟩) hzW).trans y9
      have x10 := (hb1.cell (p := ⟨wr.heap.size, 10, none⟩) hzW).trans y10
      have hwW : w.heap.size < W.heap.size := by omega
      have u4 := (hb1.cell (p := ⟨w.heap.size, 4, none⟩) hwW).trans z4
      have u5 := (hb1.cell (p := ⟨w.heap.size, 5, none⟩) hwW).trans z5
      have hz1 : wr.heap.size < w1.heap.size := Nat.lt_of_lt_of_le hzW hb1.size
      clear hb1 y5 y6 y7 y8 y9 y10 z4 z5 e0 e1 e2 e3 e4 e5 e6 e7 e8 e9 e10 c4 c5
      cases t3 : keyB (d.L k).key
      · have HT := hide (not_D2 hkn ((unhide HN).trans (if_neg (by unfold pairB; simp [t3]))))
        clear t1 t2
        go_wp2_with fail
        go_ret
        exact ⟨by rw [unhide HT]; rfl, unhide HB1⟩
      go_wp2_with fail
      refine (isValid_any (d.L k).val.kind (d.L k).val.num (d.L k).val.flt (d.L k).val.str (d.L k).val.ref _).mono ?_
      rintro e w2 ⟨rfl, hb2⟩
      have HB2 := hide ((unhide HB1).trans (hb2.mono (unhide HB1).size))
      have v5 := (hb2.cell (p := ⟨wr.heap.size, 5, none⟩) hz1).trans x5
      have v10 := (hb2.cell (p := ⟨wr.heap.size, 10, none⟩) hz1).trans x10
      have hw1 : w.heap.size < w1.heap.size := by omega
      have s4 := (hb2.cell (p := ⟨w.heap.size, 4, none⟩) hw1).trans u4
      have s5 := (hb2.cell (p := ⟨w.heap.size, 5, none⟩) hw1).trans u5
      have hw2 : w.heap.size < w2.heap.size := Nat.lt_of_lt_of_le hw1 hb2.size
      clear hb2 x5 x6 x7 x8 x9 x10 u4 u5
      cases t4 : (d.L k).val.ok
      · have HT := hide (not_D2 hkn ((unhide HN).trans (if_neg (by unfold pairB; simp [t4]))))
        have t4' : validB (d.L k).val.kind (d.L k).val.num (d.L k).val.flt (d.L k).val.str (d.L k).val.ref = false := t4
        rw [t4']
        clear t1 t2
        go_wp2_with fail
        go_ret
        exact ⟨by rw [unhide HT]; rfl, unhide HB2⟩
      have t4' : validB (d.L k).val.kind (d.L k).val.num (d.L k).val.flt (d.L k).val.str (d.L k).val.ref = true := t4
      rw [t4']
      by_cases t5 : (d.L k).val.kind = 0
      · have HT := hide (not_D2 hkn ((unhide HN).trans (if_neg (by unfold pairB; simp [t5]))))
        rw [t5] at v5
        clear t1 t2 t5
        go_wp2_with fail
        go_ret
        exact ⟨by rw [unhide HT]; rfl, unhide HB2⟩
      · have HT : Hid (logTo d (k + 1) = some (live + 1, (d.L k).turn)) := hide ((unhide HN).trans (if_pos (by unfold pairB; simp [t3, t4, t5]; omega)))
        have t5' : ((d.L k).val.kind == 0) = false := by simp [t5]
        clear t1 t2 t5
        go_wp2
        go_roundw
        case rel => exact ⟨k + 1, live + 1, (d.L k).turn, by omega, by go_num, rfl, by go_num, unhide HT, by omega, by omega, hw2, s4, s5, unhide HB2⟩
        case measure => simp [intOf]; omega
end Go.Proofs.YtglcaejddckleaaGreatDoor

namespace Go.Proofs.YtglcaejddckleaaGreatDoor
open Go.RowKit
set_option linter.unusedVariables false
attribute [local go_sem] run_store_float run_equalIn_float

def livingK (d : Dc) (x : Int) : Prop := 1 ≤ x ∧ x ≤ d.n ∧ (d.at x).turn ≠ 0

set_option maxHeartbeats 1000000 in
theorem isLiving_any (la : Option Addr) (lc : Nat) (ia : Option Addr) (ic : Nat) (xa : Option Addr) (xc : Nat) (d : Dc) (x : Int) (w : World) (hD : DAt w la ia xa d) (hS : Small d) :
    Calls Tryz.prog 99 #[Dv la lc ia ic xa xc d, .int .i64 x] w fun e w' => e = .returned (.bool (tells (livingK d x))) ∧ Below w.heap.size w w' := by
  have hn := hS.n
  by_cases h1 : 1 ≤ x
  case neg =>
    have HT := hide (tells_no (p := livingK d x) (fun h => h1 h.1))
    have h1' : decide (1 ≤ x) = false := by simp [h1]
    clear h1 hD hS
    go_enter Tryz.func99, Tryz.ntmps99
    go_wp2
    go_ret
    exact ⟨by rw [unhide HT]; rfl, (Below.refl _ _).alloc (Nat.le_refl _) _⟩
  by_cases h2 : x ≤ (d.n : Int)
  case neg =>
    have HT := hide (tells_no (p := livingK d x) (fun h => h2 h.2.1))
    clear hD hS
    go_enter Tryz.func99, Tryz.ntmps99
    go_wp2
    go_ret
    exact ⟨by rw [unhide HT]; rfl, (Below.refl _ _).alloc (Nat.le_refl _) _⟩
  obtain ⟨q, hq⟩ : ∃ q : Nat, x = (q : Int) + 1 := ⟨(x - 1).toNat, by omega⟩
  subst hq
  have hqn : q < d.n := by omega
  obtain ⟨b, off, rfl, hbl, hcs⟩ := hD.log.resolve_left (by omega)
  have e0 := (hcs q hqn).tn
  have hA : d.at ((q : Int) + 1) = d.L q := by unfold Dc.at; congr 1; omega
  by_cases ht : (d.L q).turn = 0
  · have HT := hide (tells_no (p := livingK d ((q : Int) + 1)) (fun h => h.2.2 (by rw [hA]; exact ht)))
    rw [ht] at e0
    clear hD hS hcs hA ht
    go_enter Tryz.func99, Tryz.ntmps99
    go_wp2
    go_ret
    exact ⟨by rw [unhide HT]; rfl, (Below.refl _ _).alloc (Nat.le_refl _) _⟩
  · have HT := hide (tells_yes (p := livingK d ((q : Int) + 1)) ⟨h1, h2, by rw [hA]; exact ht⟩)
    have ht' : ((d.L q).turn != 0) = true := by simp [ht]
    clear hD hS hcs hA ht
    go_enter Tryz.func99, Tryz.ntmps99
    go_wp2
    go_ret
    exact ⟨by rw [unhide HT]; simp, (Below.refl _ _).alloc (Nat.le_refl _) _⟩

set_option maxHeartbeats 1000000 in
theorem hasPlace_any (v : Vl) (m : Nat) (w : World) (hm : m ≤ 4194304) :
    Calls Tryz.prog 101 #[V v.kind v.num v.flt v.str v.ref, .int .i64 (m : Int)] w fun e w' => e = .returned (.bool (tells (smallK m v))) ∧ Below w.heap.size w w' := by
  by_cases h1 : v.kind = 2
  case neg =>
    have HT := hide (tells_no (p := smallK m v) (fun h => h1 h.1))
    have h1' : (v.kind == 2) = false := by simp [h1]
    clear h1
    go_enter Tryz.func101, Tryz.ntmps101
    go_wp2
    go_ret
    exact ⟨by rw [unhide HT]; rfl, (Below.refl _ _).alloc (Nat.le_refl _) _⟩
  have h1' : (v.kind == 2) = true := by simp [h1]
  by_cases h2 : 1 ≤ v.num
  case neg =>
    have HT := hide (tells_no (p := smallK m v) (fun h => h2 h.2.1))
    have h2' : decide (1 ≤ v.num) = false := by simp [h2]
    clear h1 h2
    go_enter Tryz.func101, Tryz.ntmps101
    go_wp2
    go_ret
    exact ⟨by rw [unhide HT]; rfl, (Below.refl _ _).alloc (Nat.le_refl _) _⟩
  have h2' : decide (1 ≤ v.num) = true := by simp [h2]
  by_cases h3 : v.num ≤ (m : Int)
  · have HT := hide (tells_yes (p := smallK m v) ⟨h1, h2, h3⟩)
    have h3' : decide (v.num ≤ (m : Int)) = true := by simp [h3]
    clear h1
    go_enter Tryz.func101, Tryz.ntmps101
    go_wp2
    go_ret
    exact ⟨by rw [unhide HT]; simp, (Below.refl _ _).alloc (Nat.le_refl _) _⟩
  · have HT := hide (tells_no (p := smallK m v) (fun h => h3 h.2.2))
    have h3' : decide (v.num ≤ (m : Int)) = false := by simp [h3]
    clear h1
    go_enter Tryz.func101, Tryz.ntmps101
    go_wp2
    go_ret
    exact ⟨by rw [unhide HT]; simp, (Below.refl _ _).alloc (Nat.le_refl _) _⟩

/-- A key that is an int, told by its kind and number. -/
theorem int_key {v : Vl} (h : keyB v = true) (hk : v.kind = 2) : (FloatKind.f64.format.order v.flt 0 == some .eq) = true ∧ v.str.toList.isEmpty = true ∧ v.ref = 0 := by
  have hv : v.ok = true := by unfold keyB at h; simp only [Bool.and_eq_true] at h; exact h.1.1
  unfold Vl.ok validB at hv
  simp only [hk] at hv
  simp [fz] at hv
  exact ⟨by simp [hv], by simp [hv], hv.2⟩

set_option maxRecDepth 100000 in
set_option maxHeartbeats 2000000 in
theorem intsHold_any (la : Option Addr) (lc : Nat) (ia : Option Addr) (ic : Nat) (xa : Option Addr) (xc : Nat) (d : Dc) (w : World) (hD : DAt w la ia xa d) (hS : Small d) (h2 : D2 d) :
    Calls Tryz.prog 62 #[Dv la lc ia ic xa xc d] w fun e w' => e = .returned (.bool (tells (D3 d))) ∧ Below w.heap.size w w' := by
  have hn := hS.n
  have hm := hS.m
  have HD := hide hD
  have HS := hide hS
  have H2 := hide h2
  clear hD hS h2
  go_enter Tryz.func62, Tryz.ntmps62
  go_wp2
  go_loopw [10] (fun i wr => ∃ (k : Nat), k ≤ d.m ∧ i = .int .i64 k ∧ (∀ j, j < k → okInt d j) ∧ w.heap.size < wr.heap.size ∧ wr.cell? ⟨w.heap.size, 0, none⟩ = some (.slice la d.n lc) ∧ wr.cell? ⟨w.heap.size, 1, none⟩ = some (.slice ia d.m ic) ∧ wr.cell? ⟨w.heap.size, 2, none⟩ = some (.slice xa d.x xc) ∧ wr.cell? ⟨w.heap.size, 3, none⟩ = some (.int .i64 d.used) ∧ wr.cell? ⟨w.heap.size, 4, none⟩ = some (.int .i64 d.live) ∧ wr.cell? ⟨w.heap.size, 5, none⟩ = some (.int .i64 d.turns) ∧ Below w.heap.size w wr) (fun i _ => d.m - (intOf i).toNat)
  case atStart => exact ⟨0, by omega, rfl, fun j hj => by omega, by simp, by simp [go_sem], by simp [go_sem], by simp [go_sem], by simp [go_sem], by simp [go_sem], by simp [go_sem], (Below.refl _ _).alloc (Nat.le_refl _) _⟩
  case round =>
    obtain ⟨k, hk, rfl, hall, hwz, c0, c1, c2, c3, c4, c5, hb⟩ := hrel
    have HALL := hide hall
    clear hall
    by_cases hkn : k < d.m
    case neg =>
      have hkn' : k = d.m := by omega
      subst hkn'
      by_cases h0 : d.m = 0
      · have HT := hide (tells_yes (p := D3 d) ⟨unhide HALL, .inl h0⟩)
        have h0' : ((d.m : Int) == 0) = true := by simp [h0]
        have HB := hide hb
        clear hb h0
        go_wp2
        go_ret
        exact ⟨by rw [unhide HT]; rfl, unhide HB⟩
      have h0' : ((d.m : Int) == 0) = false := by simp; omega
      obtain ⟨q, hq⟩ : ∃ q, d.m = q + 1 := ⟨d.m - 1, by omega⟩
      obtain ⟨b, off, rfl, hbl, hcs⟩ := (unhide HD).ints.resolve_left h0
      have e0 := (hb.cell (p := ⟨b, off + q, none⟩) hbl).trans (hcs q (by omega))
      have hq1 : IntKind.i64.wrap ((d.m : Int) - 1) = (q : Int) := by rw [IntKind.wrap_i64]; omega
      have hqm : q < d.m := by omega
      have HB := hide hb
      clear hcs hb
      have hpos : 0 < d.I q ↔ d.I q ≠ 0 := by
        rcases unhide HALL q hqm with h | h
        · omega
        · omega
      by_cases hp : d.I q = 0
      · have HT := hide (tells_no (p := D3 d) (fun h => by
          rcases h.2 with h | h
          · exact h0 h
          · rw [hq] at h; exact (hpos.1 h) hp))
        have hd : (d.I q != 0) = false := by simp [hp]
        have HQ := hide hq
        clear hp hq h0 hpos
        go_wp2
        go_ret
        exact ⟨by rw [unhide HT]; simp, unhide HB⟩
      · have HT := hide (tells_yes (p := D3 d) ⟨unhide HALL, .inr (by rw [hq]; exact hpos.2 hp)⟩)
        have hd : (d.I q != 0) = true := by simp [hp]
        have HQ := hide hq
        clear hp hq h0 hpos
        go_wp2
        go_ret
        exact ⟨by rw [unhide HT]; simp, unhide HB⟩
    obtain ⟨b, off, hia, hbl, hcs⟩ := (unhide HD).ints.resolve_left (by omega)
    subst hia
    have e0 := (hb.cell (p := ⟨b, off + k, none⟩) hbl).trans (hcs k hkn)
    have HB := hide hb
    have HDr := hide ((unhide HD).below hb)
    have hbsz := hb.size
    clear hcs hb
    by_cases h0 : d.I k = 0
    · have HO : Hid (okInt d k) := hide (.inl h0)
      rw [h0] at e0
      clear h0
      go_wp2
      go_roundw
      case rel => exact ⟨k + 1, by omega, by go_num, fun j hj => (by by_cases e : j = k; exact e ▸ unhide HO; exact unhide HALL j (by omega)), hwz, c0, c1, c2, c3, c4, c5, unhide HB⟩
      case measure => simp [intOf]; omega
    have h0' : (d.I k == 0) = false := by simp [h0]
    by_cases hl : livingK d (d.I k)
    case neg =>
      have HT := hide (not_D3 hkn (fun h => by rcases h with h | h; exact h0 h; exact hl ⟨by omega, h.2.1, h.2.2.1⟩))
      have HL := hide (tells_no hl)
      clear hl h0
      go_wp2_with fail
      refine wp_region_quiet (C := fun w' => Below wr.heap.size wr w') (by kernel_rfl) (by kernel_rfl) ((Below.refl _ _).drew) ?_
      show wpQuiet _ _ _ _ [_, _, _, _, _, _, _, _, _, _, _, _, _, _, _, _, _, _] _
      refine wpQuiet_step (fun K hK => ?_)
      go_simp
      apply Exists.intro
      refine And.intro (fun w' hw' => ?_) (hK _ ?_)
      · obtain ⟨hc', hf'⟩ := bcell hw'
        go_simp
        first | rfl | exact ⟨rfl, rfl⟩ | exact ⟨rfl⟩
      clear hK K
      refine wpQuiet_step (fun K hK => ?_)
      go_simp
      refine ⟨_, fun w' hw' => rfl, hK _ ?_⟩
      clear hK K
      refine wpQuiet_step (fun K hK => ?_)
      go_simp
      apply Exists.intro
      refine And.intro (fun w' hw' => ?_) (hK _ ?_)
      · refine (((unhide HL) ▸ isLiving_any la lc (some ⟨b, off, none⟩) ic xa xc d (d.I k) _ ((unhide HDr).below hw') (unhide HS))).mono ?_
        rintro e w'' ⟨rfl, hb⟩
        exact ⟨rfl, hw'.trans (hb.mono hw'.size)⟩
      clear hK K
      refine wpQuiet_step (fun K hK => ?_)
      go_simp
      refine ⟨_, fun w' hw' => rfl, hK _ ?_⟩
      clear hK K
      refine wpQuiet_step (fun K hK => ?_)
      go_simp
      refine ⟨_, fun w' hw' => rfl, hK _ ?_⟩
      clear hK K
      go_big_quiet_step (fail)
      go_big_quiet_step (fail)
      go_big_quiet_step (fail)
      go_big_quiet_step (fail)
      go_big_quiet_step (fail)
      go_big_quiet_step (fail)
      go_big_quiet_step (fail)
      go_big_quiet_step (fail)
      go_big_quiet_step (fail)
      go_big_quiet_step (fail)
      go_big_quiet_step (fail)
      go_big_quiet_step (fail)
      refine wpQuiet_step (fun K hK => ?_)
      go_simp
      refine ⟨_, fun w' hw' => rfl, hK _ ?_⟩
      clear hK K
      refine wpQuiet_nil ?_
      intro w2 hw2
      have HB2 := hide ((unhide HB).trans (hw2.mono hbsz))
      clear hw2
      go_wp2
      go_ret
      exact ⟨by rw [unhide HT]; rfl, unhide HB2⟩
    have HL := hide (tells_yes hl)
    obtain ⟨q, hq⟩ : ∃ q : Nat, d.I k = (q : Int) + 1 := ⟨(d.I k - 1).toNat, by have := hl.1; omega⟩
    have hqn : q < d.n := by have := hl.2.1; omega
    have hA : d.at (d.I k) = d.L q := by unfold Dc.at; rw [hq]; congr 1; omega
    have htq : (d.L q).turn ≠ 0 := hA ▸ hl.2.2
    have hkey := ((unhide H2).pos hqn htq).2
    obtain ⟨lb, lo, hla, hll, hls⟩ := (unhide HD).log.resolve_left (by omega)
    subst hla
    obtain ⟨e1, e2, e3, e4, e5, _, _, _, _, _, _⟩ := (hls q hqn).keep (fun q => (unhide HB).cell (p := ⟨lb, q, none⟩) hll)
    have hlw : lb < wr.heap.size := Nat.lt_of_lt_of_le hll hbsz
    have HOI : Hid (okInt d k ↔ (d.L q).key.kind = 2 ∧ (d.L q).key.num = (k : Int) + 1) := hide ⟨fun h => by
        rcases h with h | h
        · omega
        · rw [hA] at h; exact h.2.2.2, fun h => .inr ⟨by omega, by omega, by rw [hA]; exact htq, by rw [hA]; exact h.1, by rw [hA]; exact h.2⟩⟩
    rw [hq] at e0 h0' HL
    have hwq : IntKind.i64.wrap (q : Int) = q := by rw [IntKind.wrap_i64]; omega
    have hwk : IntKind.i64.wrap ((k : Int) + 1) = (k : Int) + 1 := by rw [IntKind.wrap_i64]; omega
    have HQ := hide hq
    have HKEY := hide hkey
    have HTQ := hide htq
    clear hls hl h0 hq hA hkey htq
    by_cases hk2 : (d.L q).key.kind = 2 ∧ (d.L q).key.num = (k : Int) + 1
    · obtain ⟨k1, k2⟩ := hk2
      have HO : Hid (okInt d k) := hide ((unhide HOI).2 ⟨k1, k2⟩)
      obtain ⟨f1, f2, f3⟩ := int_key (unhide HKEY) k1
      rw [k1] at e1
      rw [k2] at e2
      rw [f3] at e5
      clear k1 k2 f3
      go_wp2_with fail
      refine wp_region_quiet (C := fun w' => Below wr.heap.size wr w') (by kernel_rfl) (by kernel_rfl) ((Below.refl _ _).drew) ?_
      show wpQuiet _ _ _ _ [_, _, _, _, _, _, _, _, _, _, _, _, _, _, _, _, _, _] _
      refine wpQuiet_step (fun K hK => ?_)
      go_simp
      apply Exists.intro
      refine And.intro (fun w' hw' => ?_) (hK _ ?_)
      · obtain ⟨hc', hf'⟩ := bcell hw'
        go_simp
        first | rfl | exact ⟨rfl, rfl⟩ | exact ⟨rfl⟩
      clear hK K
      refine wpQuiet_step (fun K hK => ?_)
      go_simp
      refine ⟨_, fun w' hw' => rfl, hK _ ?_⟩
      clear hK K
      refine wpQuiet_step (fun K hK => ?_)
      go_simp
      apply Exists.intro
      refine And.intro (fun w' hw' => ?_) (hK _ ?_)
      · refine (((unhide HL) ▸ isLiving_any (some ⟨lb, lo, none⟩) lc (some ⟨b, off, none⟩) ic xa xc d ((q : Int) + 1) _ ((unhide HDr).below hw') (unhide HS))).mono ?_
        rintro e w'' ⟨rfl, hb⟩
        exact ⟨rfl, hw'.trans (hb.mono hw'.size)⟩
      clear hK K
      refine wpQuiet_step (fun K hK => ?_)
      go_simp
      refine ⟨_, fun w' hw' => rfl, hK _ ?_⟩
      clear hK K
      refine wpQuiet_step (fun K hK => ?_)
      go_simp
      refine ⟨_, fun w' hw' => rfl, hK _ ?_⟩
      clear hK K
      refine wpQuiet_step (fun K hK => ?_)
      go_simp
      refine ⟨_, fun w' hw' => rfl, hK _ ?_⟩
      clear hK K
      refine wpQuiet_step (fun K hK => ?_)
      go_simp
      refine ⟨_, fun w' hw' => rfl, hK _ ?_⟩
      clear hK K
      refine wpQuiet_step (fun K hK => ?_)
      go_simp
      apply Exists.intro
      refine And.intro (fun w' hw' => ?_) (hK _ ?_)
      · obtain ⟨hc', hf'⟩ := bcell hw'
        go_simp
        first | rfl | exact ⟨rfl, rfl⟩ | exact ⟨rfl⟩
      clear hK K
      refine wpQuiet_step (fun K hK => ?_)
      go_simp
      refine ⟨_, fun w' hw' => rfl, hK _ ?_⟩
      clear hK K
      refine wpQuiet_step (fun K hK => ?_)
      go_simp
      refine ⟨_, fun w' hw' => rfl, hK _ ?_⟩
      clear hK K
      refine wpQuiet_step (fun K hK => ?_)
      go_simp
      refine ⟨_, fun w' hw' => rfl, hK _ ?_⟩
      clear hK K
      refine wpQuiet_step (fun K hK => ?_)
      go_simp
      refine ⟨_, fun w' hw' => rfl, hK _ ?_⟩
      clear hK K
      refine wpQuiet_step (fun K hK => ?_)
      go_simp
      apply Exists.intro
      refine And.intro (fun w' hw' => ?_) (hK _ ?_)
      · obtain ⟨hc', hf'⟩ := bcell hw'
        go_simp
        first | rfl | exact ⟨rfl, rfl⟩ | exact ⟨rfl⟩
      clear hK K
      refine wpQuiet_step (fun K hK => ?_)
      go_simp
      refine ⟨_, fun w' hw' => rfl, hK _ ?_⟩
      clear hK K
      refine wpQuiet_step (fun K hK => ?_)
      go_simp
      refine ⟨_, fun w' hw' => rfl, hK _ ?_⟩
      clear hK K
      refine wpQuiet_step (fun K hK => ?_)
      go_simp
      apply Exists.intro
      refine And.intro (fun w' hw' => ?_) (hK _ ?_)
      · refine (intValue_any ((k : Int) + 1) _).mono ?_
        rintro e w'' ⟨rfl, hb⟩
        exact ⟨rfl, hw'.trans (hb.mono hw'.size)⟩
      clear hK K
      refine wpQuiet_step (fun K hK => ?_)
      go_simp
      refine ⟨_, fun w' hw' => rfl, hK _ ?_⟩
      clear hK K
      refine wpQuiet_step (fun K hK => ?_)
      go_simp
      refine ⟨_, fun w' hw' => rfl, hK _ ?_⟩
      clear hK K
      refine wpQuiet_nil ?_
      intro w2 hw2
      have HB2 := hide ((unhide HB).trans (hw2.mono hbsz))
      have hsz2 : w.heap.size < w2.heap.size := Nat.lt_of_lt_of_le hwz hw2.size
      have g0 := (hw2.cell (p := ⟨w.heap.size, 0, none⟩) hwz).trans c0
      have g1 := (hw2.cell (p := ⟨w.heap.size, 1, none⟩) hwz).trans c1
      have g2 := (hw2.cell (p := ⟨w.heap.size, 2, none⟩) hwz).trans c2
      have g3 := (hw2.cell (p := ⟨w.heap.size, 3, none⟩) hwz).trans c3
      have g4 := (hw2.cell (p := ⟨w.heap.size, 4, none⟩) hwz).trans c4
      have g5 := (hw2.cell (p := ⟨w.heap.size, 5, none⟩) hwz).trans c5
      clear hw2 c0 c1 c2 c3 c4 c5
      go_wp2
      go_roundw
      case rel => exact ⟨k + 1, by omega, by go_num, fun j hj => (by by_cases e : j = k; exact e ▸ unhide HO; exact unhide HALL j (by omega)), hsz2, g0, g1, g2, g3, g4, g5, unhide HB2⟩
      case measure => simp [intOf]; omega
    · have HT := hide (not_D3 hkn (fun h => hk2 ((unhide HOI).1 h)))
      by_cases k1 : (d.L q).key.kind = 2
      · obtain ⟨f1, f2, f3⟩ := int_key (unhide HKEY) k1
        have k2 : ((d.L q).key.num == (k : Int) + 1) = false := by simp; exact fun h => hk2 ⟨k1, h⟩
        rw [k1] at e1
        rw [f3] at e5
        clear k1 hk2 f3
        go_wp2_with fail
        refine wp_region_quiet (C := fun w' => Below wr.heap.size wr w') (by kernel_rfl) (by kernel_rfl) ((Below.refl _ _).drew) ?_
        show wpQuiet _ _ _ _ [_, _, _, _, _, _, _, _, _, _, _, _, _, _, _, _, _, _] _
        refine wpQuiet_step (fun K hK => ?_)
        go_simp
        apply Exists.intro
        refine And.intro (fun w' hw' => ?_) (hK _ ?_)
        · obtain ⟨hc', hf'⟩ := bcell hw'
          go_simp
          first | rfl | exact ⟨rfl, rfl⟩ | exact ⟨rfl⟩
        clear hK K
        refine wpQuiet_step (fun K hK => ?_)
        go_simp
        refine ⟨_, fun w' hw' => rfl, hK _ ?_⟩
        clear hK K
        refine wpQuiet_step (fun K hK => ?_)
        go_simp
        apply Exists.intro
        refine And.intro (fun w' hw' => ?_) (hK _ ?_)
        · refine (((unhide HL) ▸ isLiving_any (some ⟨lb, lo, none⟩) lc (some ⟨b, off, none⟩) ic xa xc d ((q : Int) + 1) _ ((unhide HDr).below hw') (unhide HS))).mono ?_
          rintro e w'' ⟨rfl, hb⟩
          exact ⟨rfl, hw'.trans (hb.mono hw'.size)⟩
        clear hK K
        refine wpQuiet_step (fun K hK => ?_)
        go_simp
        refine ⟨_, fun w' hw' => rfl, hK _ ?_⟩
        clear hK K
        refine wpQuiet_step (fun K hK => ?_)
        go_simp
        refine ⟨_, fun w' hw' => rfl, hK _ ?_⟩
        clear hK K
        refine wpQuiet_step (fun K hK => ?_)
        go_simp
        refine ⟨_, fun w' hw' => rfl, hK _ ?_⟩
        clear hK K
        refine wpQuiet_step (fun K hK => ?_)
        go_simp
        refine ⟨_, fun w' hw' => rfl, hK _ ?_⟩
        clear hK K
        refine wpQuiet_step (fun K hK => ?_)
        go_simp
        apply Exists.intro
        refine And.intro (fun w' hw' => ?_) (hK _ ?_)
        · obtain ⟨hc', hf'⟩ := bcell hw'
          go_simp
          first | rfl | exact ⟨rfl, rfl⟩ | exact ⟨rfl⟩
        clear hK K
        refine wpQuiet_step (fun K hK => ?_)
        go_simp
        refine ⟨_, fun w' hw' => rfl, hK _ ?_⟩
        clear hK K
        refine wpQuiet_step (fun K hK => ?_)
        go_simp
        refine ⟨_, fun w' hw' => rfl, hK _ ?_⟩
        clear hK K
        refine wpQuiet_step (fun K hK => ?_)
        go_simp
        refine ⟨_, fun w' hw' => rfl, hK _ ?_⟩
        clear hK K
        refine wpQuiet_step (fun K hK => ?_)
        go_simp
        refine ⟨_, fun w' hw' => rfl, hK _ ?_⟩
        clear hK K
        refine wpQuiet_step (fun K hK => ?_)
        go_simp
        apply Exists.intro
        refine And.intro (fun w' hw' => ?_) (hK _ ?_)
        · obtain ⟨hc', hf'⟩ := bcell hw'
          go_simp
          first | rfl | exact ⟨rfl, rfl⟩ | exact ⟨rfl⟩
        clear hK K
        refine wpQuiet_step (fun K hK => ?_)
        go_simp
        refine ⟨_, fun w' hw' => rfl, hK _ ?_⟩
        clear hK K
        refine wpQuiet_step (fun K hK => ?_)
        go_simp
        refine ⟨_, fun w' hw' => rfl, hK _ ?_⟩
        clear hK K
        refine wpQuiet_step (fun K hK => ?_)
        go_simp
        apply Exists.intro
        refine And.intro (fun w' hw' => ?_) (hK _ ?_)
        · refine (intValue_any ((k : Int) + 1) _).mono ?_
          rintro e w'' ⟨rfl, hb⟩
          exact ⟨rfl, hw'.trans (hb.mono hw'.size)⟩
        clear hK K
        refine wpQuiet_step (fun K hK => ?_)
        go_simp
        refine ⟨_, fun w' hw' => rfl, hK _ ?_⟩
        clear hK K
        refine wpQuiet_step (fun K hK => ?_)
        go_simp
        refine ⟨_, fun w' hw' => rfl, hK _ ?_⟩
        clear hK K
        refine wpQuiet_nil ?_
        intro w2 hw2
        have HB2 := hide ((unhide HB).trans (hw2.mono hbsz))
        clear hw2
        go_wp2
        go_ret
        exact ⟨by rw [unhide HT]; rfl, unhide HB2⟩
      · have k1' : ((d.L q).key.kind == 2) = false := by simp [k1]
        clear k1 hk2
        go_wp2_with fail
        refine wp_region_quiet (C := fun w' => Below wr.heap.size wr w') (by kernel_rfl) (by kernel_rfl) ((Below.refl _ _).drew) ?_
        show wpQuiet _ _ _ _ [_, _, _, _, _, _, _, _, _, _, _, _, _, _, _, _, _, _] _
        refine wpQuiet_step (fun K hK => ?_)
        go_simp
        apply Exists.intro
        refine And.intro (fun w' hw' => ?_) (hK _ ?_)
        · obtain ⟨hc', hf'⟩ := bcell hw'
          go_simp
          first | rfl | exact ⟨rfl, rfl⟩ | exact ⟨rfl⟩
        clear hK K
        refine wpQuiet_step (fun K hK => ?_)
        go_simp
        refine ⟨_, fun w' hw' => rfl, hK _ ?_⟩
        clear hK K
        refine wpQuiet_step (fun K hK => ?_)
        go_simp
        apply Exists.intro
        refine And.intro (fun w' hw' => ?_) (hK _ ?_)
        · refine (((unhide HL) ▸ isLiving_any (some ⟨lb, lo, none⟩) lc (some ⟨b, off, none⟩) ic xa xc d ((q : Int) + 1) _ ((unhide HDr).below hw') (unhide HS))).mono ?_
          rintro e w'' ⟨rfl, hb⟩
          exact ⟨rfl, hw'.trans (hb.mono hw'.size)⟩
        clear hK K
        refine wpQuiet_step (fun K hK => ?_)
        go_simp
        refine ⟨_, fun w' hw' => rfl, hK _ ?_⟩
        clear hK K
        refine wpQuiet_step (fun K hK => ?_)
        go_simp
        refine ⟨_, fun w' hw' => rfl, hK _ ?_⟩
        clear hK K
        refine wpQuiet_step (fun K hK => ?_)
        go_simp
        refine ⟨_, fun w' hw' => rfl, hK _ ?_⟩
        clear hK K
        refine wpQuiet_step (fun K hK => ?_)
        go_simp
        refine ⟨_, fun w' hw' => rfl, hK _ ?_⟩
        clear hK K
        refine wpQuiet_step (fun K hK => ?_)
        go_simp
        apply Exists.intro
        refine And.intro (fun w' hw' => ?_) (hK _ ?_)
        · obtain ⟨hc', hf'⟩ := bcell hw'
          go_simp
          first | rfl | exact ⟨rfl, rfl⟩ | exact ⟨rfl⟩
        clear hK K
        refine wpQuiet_step (fun K hK => ?_)
        go_simp
        refine ⟨_, fun w' hw' => rfl, hK _ ?_⟩
        clear hK K
        refine wpQuiet_step (fun K hK => ?_)
        go_simp
        refine ⟨_, fun w' hw' => rfl, hK _ ?_⟩
        clear hK K
        refine wpQuiet_step (fun K hK => ?_)
        go_simp
        refine ⟨_, fun w' hw' => rfl, hK _ ?_⟩
        clear hK K
        refine wpQuiet_step (fun K hK => ?_)
        go_simp
        refine ⟨_, fun w' hw' => rfl, hK _ ?_⟩
        clear hK K
        refine wpQuiet_step (fun K hK => ?_)
        go_simp
        apply Exists.intro
        refine And.intro (fun w' hw' => ?_) (hK _ ?_)
        · obtain ⟨hc', hf'⟩ := bcell hw'
          go_simp
          first | rfl | exact ⟨rfl, rfl⟩ | exact ⟨rfl⟩
        clear hK K
        refine wpQuiet_step (fun K hK => ?_)
        go_simp
        refine ⟨_, fun w' hw' => rfl, hK _ ?_⟩
        clear hK K
        refine wpQuiet_step (fun K hK => ?_)
        go_simp
        refine ⟨_, fun w' hw' => rfl, hK _ ?_⟩
        clear hK K
        refine wpQuiet_step (fun K hK => ?_)
        go_simp
        apply Exists.intro
        refine And.intro (fun w' hw' => ?_) (hK _ ?_)
        · refine (intValue_any ((k : Int) + 1) _).mono ?_
          rintro e w'' ⟨rfl, hb⟩
          exact ⟨rfl, hw'.trans (hb.mono hw'.size)⟩
        clear hK K
        refine wpQuiet_step (fun K hK => ?_)
        go_simp
        refine ⟨_, fun w' hw' => rfl, hK _ ?_⟩
        clear hK K
        refine wpQuiet_step (fun K hK => ?_)
        go_simp
        refine ⟨_, fun w' hw' => rfl, hK _ ?_⟩
        clear hK K
        refine wpQuiet_nil ?_
        intro w2 hw2
        have HB2 := hide ((unhide HB).trans (hw2.mono hbsz))
        clear hw2
        go_wp2
        go_ret
        exact ⟨by rw [unhide HT]; rfl, unhide HB2⟩
end Go.Proofs.YtglcaejddckleaaGreatDoor

namespace Go.Proofs.YtglcaejddckleaaGreatDoor
open Go.RowKit
set_option linter.unusedVariables false
attribute [local go_sem] run_store_float run_equalIn_float

theorem size_out {d : Dc} (h : ¬ SizeX d.x) : d.x ≠ 0 ∧ (d.x < 8 ∨ 4000 < d.x ∨ (8 ≤ d.x ∧ d.x ≤ 4000 ∧ ¬ Pow2 d.x)) := by
  unfold SizeX at h
  by_cases h0 : d.x = 0
  · exact absurd (.inl h0) h
  refine ⟨h0, ?_⟩
  by_cases h1 : d.x < 8
  · exact .inl h1
  by_cases h2 : 4000 < d.x
  · exact .inr (.inl h2)
  exact .inr (.inr ⟨by omega, by omega, fun hp => h (.inr ⟨by omega, by omega, hp⟩)⟩)

set_option maxRecDepth 100000 in
set_option maxHeartbeats 2000000 in
theorem indexHolds_any (la : Option Addr) (lc : Nat) (ia : Option Addr) (ic : Nat) (xa : Option Addr) (xc : Nat) (d : Dc) (w : World) (hD : DAt w la ia xa d) (hS : Small d) (h2 : D2 d) :
    Calls Tryz.prog 63 #[Dv la lc ia ic xa xc d] w fun e w' => e = .returned (.bool (tells (D4 d))) ∧ Below w.heap.size w w' := by
  have hn := hS.n
  have hm := hS.m
  have hx := hS.x
  have HD := hide hD
  have HS := hide hS
  have H2 := hide h2
  clear hD hS h2
  have hb1 : ∀ o, Below w.heap.size w (w.alloc o) := fun o => (Below.refl _ _).alloc (Nat.le_refl _) _
  have HBA := hide hb1
  clear hb1
  by_cases hsx : SizeX d.x
  case neg =>
    have HT := hide (not_D4' (d := d) hsx)
    obtain ⟨h0, h1⟩ := size_out hsx
    have h0' : ((d.x : Int) != 0) = true := by simp [h0]
    clear hsx h0
    rcases h1 with h1 | h1 | ⟨h1, h2, h3⟩
    · go_enter Tryz.func63, Tryz.ntmps63
      go_wp2
      go_ret
      exact ⟨by rw [unhide HT]; rfl, unhide HBA _⟩
    · have h1' : ¬ (d.x : Int) < 8 := by omega
      go_enter Tryz.func63, Tryz.ntmps63
      go_wp2
      go_ret
      exact ⟨by rw [unhide HT]; rfl, unhide HBA _⟩
    · have hp : (pop (d.x : Int) != 1) = true := by
        simp only [bne_iff_ne, ne_eq]
        exact fun h => h3 ((pop_iff h2).1 h)
      have h1' : ¬ (d.x : Int) < 8 := by omega
      clear h3
      generalize hpp : pop (d.x : Int) = pp at hp
      have HPP := hide hpp
      clear hpp
      go_enter Tryz.func63, Tryz.ntmps63
      go_wp2_with (go_at_call 100; refine (onesCount_any d.x h2 _).mono ?_; rintro e w1 ⟨rfl, rfl⟩; rw [unhide HPP])
      go_ret
      exact ⟨by rw [unhide HT]; rfl, unhide HBA _⟩
  have HSX := hide hsx
  obtain ⟨br, hbr⟩ : ∃ br : Bool, br = decide (d.x = 0) := ⟨_, rfl⟩
  go_enter Tryz.func63, Tryz.ntmps63
  clear hbr
  by_cases h0 : d.x = 0
  · have h0' : ((d.x : Int) != 0) = false := by simp [h0]
    have h0'' : ¬ (0 : Int) < d.x := by omega
    have HX0 := hide h0
    clear h0 hsx
    go_wp2_with fail
    go_loopw [4, 31] (fun u i wr => u = .int .i64 0 ∧ i = .int .i64 0 ∧ wr.cell? ⟨w.heap.size, 3, none⟩ = some (.int .i64 d.used) ∧ Below w.heap.size w wr) (fun _ _ _ => 0)
    case atStart => exact ⟨rfl, rfl, by simp [go_sem], unhide HBA _⟩
    case round =>
      obtain ⟨rfl, rfl, c3, hb⟩ := hrel
      have hle : (0 : Int) ≤ d.x := by omega
      have HB := hide hb
      clear hb
      by_cases hu : (0 : Int) = d.used
      · have HT := hide (tells_yes (p := D4 d) ⟨.inl (unhide HX0), fun j hj => by have := unhide HX0; omega, by rw [unhide HX0]; exact hu, by rw [unhide HX0]; exact Nat.le_refl _⟩)
        rw [← hu] at c3
        clear hu
        go_wp2
        go_ret
        exact ⟨by rw [unhide HT]; rfl, unhide HB⟩
      · have HT := hide (tells_no (p := D4 d) (fun h => by have := h.2.2.1; rw [unhide HX0] at this; exact hu this))
        have hu' : ((0 : Int) == d.used) = false := by simp [hu]
        clear hu
        go_wp2
        go_ret
        exact ⟨by rw [unhide HT]; rfl, unhide HB⟩
  have hsz : 8 ≤ d.x ∧ d.x ≤ 4000 ∧ Pow2 d.x := hsx.resolve_left h0
  have h0' : ((d.x : Int) != 0) = true := by simp [h0]
  have h1' : ¬ (d.x : Int) < 8 := by omega
  have hx2 := hsz.2.1
  have h3' : ¬ (4000 : Int) < d.x := by omega
  have HPP := hide ((pop_iff hsz.2.1).2 hsz.2.2)
  clear hsx h0 hsz
  go_wp2_with (go_at_call 100; refine (onesCount_any d.x hx2 _).mono ?_; rintro e w1 ⟨rfl, rfl⟩; rw [unhide HPP])
  go_loopw [4, 31] (fun u i wr => ∃ k : Nat, k ≤ d.x ∧ i = .int .i64 k ∧ u = .int .i64 (usedTo d k) ∧ (∀ j, j < k → okSlot d j) ∧ w.heap.size < wr.heap.size ∧ wr.cell? ⟨w.heap.size, 0, none⟩ = some (.slice la d.n lc) ∧ wr.cell? ⟨w.heap.size, 1, none⟩ = some (.slice ia d.m ic) ∧ wr.cell? ⟨w.heap.size, 2, none⟩ = some (.slice xa d.x xc) ∧ wr.cell? ⟨w.heap.size, 3, none⟩ = some (.int .i64 d.used) ∧ wr.cell? ⟨w.heap.size, 4, none⟩ = some (.int .i64 d.live) ∧ wr.cell? ⟨w.heap.size, 5, none⟩ = some (.int .i64 d.turns) ∧ Below w.heap.size w wr) (fun _ i _ => d.x - (intOf i).toNat)
  case atStart => exact ⟨0, by omega, rfl, rfl, fun j hj => by omega, by simp, by simp [go_sem], by simp [go_sem], by simp [go_sem], by simp [go_sem], by simp [go_sem], by simp [go_sem], unhide HBA _⟩
  case round =>
    obtain ⟨k, hk, rfl, rfl, hall, hwz, c0, c1, c2, c3, c4, c5, hb⟩ := hrel
    have hul := usedTo_le d k
    have HALL := hide hall
    clear hall
    by_cases hkn : k < d.x
    case neg =>
      have hkn' : k = d.x := by omega
      subst hkn'
      have HB := hide hb
      clear hb
      by_cases h1 : (usedTo d d.x : Int) = d.used
      case neg =>
        have HT := hide (tells_no (p := D4 d) (fun h => h1 h.2.2.1))
        have h1' : ((usedTo d d.x : Int) == d.used) = false := by simp [h1]
        clear h1
        go_wp2
        go_ret
        exact ⟨by rw [unhide HT]; rfl, unhide HB⟩
      have h1' : ((usedTo d d.x : Int) == d.used) = true := by simp [h1]
      by_cases h2 : 2 * usedTo d d.x ≤ d.x
      · have HT := hide (tells_yes (p := D4 d) ⟨unhide HSX, unhide HALL, h1, h2⟩)
        have h2' : decide (2 * (usedTo d d.x : Int) ≤ d.x) = true := by simp; omega
        clear h1 h2
        go_wp2
        go_ret
        exact ⟨by rw [unhide HT]; simp, unhide HB⟩
      · have HT := hide (tells_no (p := D4 d) (fun h => h2 h.2.2.2))
        have h2' : decide (2 * (usedTo d d.x : Int) ≤ d.x) = false := by simp; omega
        clear h1 h2
        go_wp2
        go_ret
        exact ⟨by rw [unhide HT]; simp, unhide HB⟩
    obtain ⟨b, off, hxa, hbl, hcs⟩ := (unhide HD).index.resolve_left (by omega)
    subst hxa
    have e0 := (hb.cell (p := ⟨b, off + k, none⟩) hbl).trans (hcs k hkn)
    have HB := hide hb
    have HDr := hide ((unhide HD).below hb)
    have hbsz := hb.size
    clear hcs hb
    by_cases p3 : d.X k = 0
    · have HO : Hid (okSlot d k) := hide (.inl p3)
      have HU : Hid (usedTo d (k + 1) = usedTo d k) := hide (by show (if d.X k = 0 then _ else _) = _; rw [if_pos p3])
      rw [p3] at e0
      clear p3
      go_wp2
      go_roundw
      case rel => exact ⟨k + 1, by omega, by go_num, by rw [unhide HU], fun j hj => (by by_cases e : j = k; exact e ▸ unhide HO; exact unhide HALL j (by omega)), hwz, c0, c1, c2, c3, c4, c5, unhide HB⟩
      case measure => simp [intOf]; omega
    have HU : Hid (usedTo d (k + 1) = usedTo d k + 1) := hide (by show (if d.X k = 0 then _ else _) = _; rw [if_neg p3])
    by_cases p4 : d.X k = -1
    · have HO : Hid (okSlot d k) := hide (.inr (.inl p4))
      rw [p4] at e0
      clear p3 p4
      go_wp2
      go_roundw
      case rel => exact ⟨k + 1, by omega, by go_num, by rw [unhide HU]; go_num, fun j hj => (by by_cases e : j = k; exact e ▸ unhide HO; exact unhide HALL j (by omega)), hwz, c0, c1, c2, c3, c4, c5, unhide HB⟩
      case measure => simp [intOf]; omega
    have p3' : (d.X k == 0) = false := by simp [p3]
    have p4' : (d.X k == -1) = false := by simp [p4]
    by_cases hl : livingK d (d.X k)
    case neg =>
      have HT := hide (not_D4 hkn (fun h => by
        rcases h with h | h | h
        · exact p3 h
        · exact p4 h
        · exact hl ⟨by omega, h.2.1, h.2.2.1⟩))
      have HL := hide (tells_no hl)
      clear hl p3 p4
      go_wp2_with fail
      refine wp_region_quiet (C := fun w' => Below wr.heap.size wr w') (by kernel_rfl) (by kernel_rfl) ((Below.refl _ _).drew) ?_
      show wpQuiet _ _ _ _ [_, _, _, _, _, _, _, _, _, _, _, _, _, _, _, _, _, _, _] _
      refine wpQuiet_step (fun K hK => ?_)
      go_simp
      apply Exists.intro
      refine And.intro (fun w' hw' => ?_) (hK _ ?_)
      · obtain ⟨hc', hf'⟩ := bcell hw'
        go_simp
        first | rfl | exact ⟨rfl, rfl⟩ | exact ⟨rfl⟩
      clear hK K
      refine wpQuiet_step (fun K hK => ?_)
      go_simp
      refine ⟨_, fun w' hw' => rfl, hK _ ?_⟩
      clear hK K
      refine wpQuiet_step (fun K hK => ?_)
      go_simp
      apply Exists.intro
      refine And.intro (fun w' hw' => ?_) (hK _ ?_)
      · refine (((unhide HL) ▸ isLiving_any la lc ia ic (some ⟨b, off, none⟩) xc d (d.X k) _ ((unhide HDr).below hw') (unhide HS))).mono ?_
        rintro e w'' ⟨rfl, hb⟩
        exact ⟨rfl, hw'.trans (hb.mono hw'.size)⟩
      clear hK K
      refine wpQuiet_step (fun K hK => ?_)
      go_simp
      refine ⟨_, fun w' hw' => rfl, hK _ ?_⟩
      clear hK K
      refine wpQuiet_step (fun K hK => ?_)
      go_simp
      refine ⟨_, fun w' hw' => rfl, hK _ ?_⟩
      clear hK K
      go_big_quiet_step (fail)
      go_big_quiet_step (fail)
      go_big_quiet_step (fail)
      go_big_quiet_step (fail)
      go_big_quiet_step (fail)
      go_big_quiet_step (fail)
      go_big_quiet_step (fail)
      go_big_quiet_step (fail)
      go_big_quiet_step (fail)
      go_big_quiet_step (fail)
      go_big_quiet_step (fail)
      go_big_quiet_step (fail)
      go_big_quiet_step (fail)
      refine wpQuiet_step (fun K hK => ?_)
      go_simp
      refine ⟨_, fun w' hw' => rfl, hK _ ?_⟩
      clear hK K
      refine wpQuiet_nil ?_
      intro w2 hw2
      have HB2 := hide ((unhide HB).trans (hw2.mono hbsz))
      clear hw2
      go_wp2
      go_ret
      exact ⟨by rw [unhide HT]; rfl, unhide HB2⟩
    have HL := hide (tells_yes hl)
    obtain ⟨q, hq⟩ : ∃ q : Nat, d.X k = (q : Int) + 1 := ⟨(d.X k - 1).toNat, by have := hl.1; omega⟩
    have hqn : q < d.n := by have := hl.2.1; omega
    have hA : d.at (d.X k) = d.L q := by unfold Dc.at; rw [hq]; congr 1; omega
    have htq : (d.L q).turn ≠ 0 := hA ▸ hl.2.2
    obtain ⟨lb, lo, hla, hll, hls⟩ := (unhide HD).log.resolve_left (by omega)
    subst hla
    obtain ⟨e1, e2, e3, e4, e5, _, _, _, _, _, _⟩ := (hls q hqn).keep (fun q => (unhide HB).cell (p := ⟨lb, q, none⟩) hll)
    have hlw : lb < wr.heap.size := Nat.lt_of_lt_of_le hll hbsz
    have HOI : Hid (okSlot d k ↔ ¬ smallK d.m (d.L q).key) := hide ⟨fun h => by
        rcases h with h | h | h
        · omega
        · omega
        · rw [hA] at h; exact h.2.2.2, fun h => .inr (.inr ⟨by omega, by omega, by rw [hA]; exact htq, by rw [hA]; exact h⟩)⟩
    rw [hq] at e0 p3' p4' HL
    have hwq : IntKind.i64.wrap (q : Int) = q := by rw [IntKind.wrap_i64]; omega
    clear hls hl p3 p4 hq hA htq
    by_cases hsm : smallK d.m (d.L q).key
    · have HT := hide (not_D4 hkn (fun h => (unhide HOI).1 h hsm))
      have HSM := hide (tells_yes hsm)
      clear hsm
      go_wp2_with fail
      refine wp_region_quiet (C := fun w' => Below wr.heap.size wr w') (by kernel_rfl) (by kernel_rfl) ((Below.refl _ _).drew) ?_
      show wpQuiet _ _ _ _ [_, _, _, _, _, _, _, _, _, _, _, _, _, _, _, _, _, _, _] _
      refine wpQuiet_step (fun K hK => ?_)
      go_simp
      apply Exists.intro
      refine And.intro (fun w' hw' => ?_) (hK _ ?_)
      · obtain ⟨hc', hf'⟩ := bcell hw'
        go_simp
        first | rfl | exact ⟨rfl, rfl⟩ | exact ⟨rfl⟩
      clear hK K
      refine wpQuiet_step (fun K hK => ?_)
      go_simp
      refine ⟨_, fun w' hw' => rfl, hK _ ?_⟩
      clear hK K
      refine wpQuiet_step (fun K hK => ?_)
      go_simp
      apply Exists.intro
      refine And.intro (fun w' hw' => ?_) (hK _ ?_)
      · refine (((unhide HL) ▸ isLiving_any (some ⟨lb, lo, none⟩) lc ia ic (some ⟨b, off, none⟩) xc d ((q : Int) + 1) _ ((unhide HDr).below hw') (unhide HS))).mono ?_
        rintro e w'' ⟨rfl, hb⟩
        exact ⟨rfl, hw'.trans (hb.mono hw'.size)⟩
      clear hK K
      refine wpQuiet_step (fun K hK => ?_)
      go_simp
      refine ⟨_, fun w' hw' => rfl, hK _ ?_⟩
      clear hK K
      refine wpQuiet_step (fun K hK => ?_)
      go_simp
      refine ⟨_, fun w' hw' => rfl, hK _ ?_⟩
      clear hK K
      refine wpQuiet_step (fun K hK => ?_)
      go_simp
      refine ⟨_, fun w' hw' => rfl, hK _ ?_⟩
      clear hK K
      refine wpQuiet_step (fun K hK => ?_)
      go_simp
      refine ⟨_, fun w' hw' => rfl, hK _ ?_⟩
      clear hK K
      refine wpQuiet_step (fun K hK => ?_)
      go_simp
      apply Exists.intro
      refine And.intro (fun w' hw' => ?_) (hK _ ?_)
      · obtain ⟨hc', hf'⟩ := bcell hw'
        go_simp
        first | rfl | exact ⟨rfl, rfl⟩ | exact ⟨rfl⟩
      clear hK K
      refine wpQuiet_step (fun K hK => ?_)
      go_simp
      refine ⟨_, fun w' hw' => rfl, hK _ ?_⟩
      clear hK K
      refine wpQuiet_step (fun K hK => ?_)
      go_simp
      refine ⟨_, fun w' hw' => rfl, hK _ ?_⟩
      clear hK K
      refine wpQuiet_step (fun K hK => ?_)
      go_simp
      refine ⟨_, fun w' hw' => rfl, hK _ ?_⟩
      clear hK K
      refine wpQuiet_step (fun K hK => ?_)
      go_simp
      refine ⟨_, fun w' hw' => rfl, hK _ ?_⟩
      clear hK K
      refine wpQuiet_step (fun K hK => ?_)
      go_simp
      apply Exists.intro
      refine And.intro (fun w' hw' => ?_) (hK _ ?_)
      · obtain ⟨hc', hf'⟩ := bcell hw'
        go_simp
        first | rfl | exact ⟨rfl, rfl⟩ | exact ⟨rfl⟩
      clear hK K
      refine wpQuiet_step (fun K hK => ?_)
      go_simp
      refine ⟨_, fun w' hw' => rfl, hK _ ?_⟩
      clear hK K
      refine wpQuiet_step (fun K hK => ?_)
      go_simp
      refine ⟨_, fun w' hw' => rfl, hK _ ?_⟩
      clear hK K
      refine wpQuiet_step (fun K hK => ?_)
      go_simp
      apply Exists.intro
      refine And.intro (fun w' hw' => ?_) (hK _ ?_)
      · obtain ⟨hc', hf'⟩ := bcell hw'
        go_simp
        first | rfl | exact ⟨rfl, rfl⟩ | exact ⟨rfl⟩
      clear hK K
      refine wpQuiet_step (fun K hK => ?_)
      go_simp
      refine ⟨_, fun w' hw' => rfl, hK _ ?_⟩
      clear hK K
      refine wpQuiet_step (fun K hK => ?_)
      go_simp
      apply Exists.intro
      refine And.intro (fun w' hw' => ?_) (hK _ ?_)
      · refine (((unhide HSM) ▸ hasPlace_any (d.L q).key d.m _ hm)).mono ?_
        rintro e w'' ⟨rfl, hb⟩
        exact ⟨rfl, hw'.trans (hb.mono hw'.size)⟩
      clear hK K
      refine wpQuiet_step (fun K hK => ?_)
      go_simp
      refine ⟨_, fun w' hw' => rfl, hK _ ?_⟩
      clear hK K
      refine wpQuiet_nil ?_
      intro w2 hw2
      have HB2 := hide ((unhide HB).trans (hw2.mono hbsz))
      clear hw2
      go_wp2
      go_ret
      exact ⟨by rw [unhide HT]; rfl, unhide HB2⟩
    · have HO : Hid (okSlot d k) := hide ((unhide HOI).2 hsm)
      have HSM := hide (tells_no hsm)
      clear hsm
      go_wp2_with fail
      refine wp_region_quiet (C := fun w' => Below wr.heap.size wr w') (by kernel_rfl) (by kernel_rfl) ((Below.refl _ _).drew) ?_
      show wpQuiet _ _ _ _ [_, _, _, _, _, _, _, _, _, _, _, _, _, _, _, _, _, _, _] _
      refine wpQuiet_step (fun K hK => ?_)
      go_simp
      apply Exists.intro
      refine And.intro (fun w' hw' => ?_) (hK _ ?_)
      · obtain ⟨hc', hf'⟩ := bcell hw'
        go_simp
        first | rfl | exact ⟨rfl, rfl⟩ | exact ⟨rfl⟩
      clear hK K
      refine wpQuiet_step (fun K hK => ?_)
      go_simp
      refine ⟨_, fun w' hw' => rfl, hK _ ?_⟩
      clear hK K
      refine wpQuiet_step (fun K hK => ?_)
      go_simp
      apply Exists.intro
      refine And.intro (fun w' hw' => ?_) (hK _ ?_)
      · refine (((unhide HL) ▸ isLiving_any (some ⟨lb, lo, none⟩) lc ia ic (some ⟨b, off, none⟩) xc d ((q : Int) + 1) _ ((unhide HDr).below hw') (unhide HS))).mono ?_
        rintro e w'' ⟨rfl, hb⟩
        exact ⟨rfl, hw'.trans (hb.mono hw'.size)⟩
      clear hK K
      refine wpQuiet_step (fun K hK => ?_)
      go_simp
      refine ⟨_, fun w' hw' => rfl, hK _ ?_⟩
      clear hK K
      refine wpQuiet_step (fun K hK => ?_)
      go_simp
      refine ⟨_, fun w' hw' => rfl, hK _ ?_⟩
      clear hK K
      refine wpQuiet_step (fun K hK => ?_)
      go_simp
      refine ⟨_, fun w' hw' => rfl, hK _ ?_⟩
      clear hK K
      refine wpQuiet_step (fun K hK => ?_)
      go_simp
      refine ⟨_, fun w' hw' => rfl, hK _ ?_⟩
      clear hK K
      refine wpQuiet_step (fun K hK => ?_)
      go_simp
      apply Exists.intro
      refine And.intro (fun w' hw' => ?_) (hK _ ?_)
      · obtain ⟨hc', hf'⟩ := bcell hw'
        go_simp
        first | rfl | exact ⟨rfl, rfl⟩ | exact ⟨rfl⟩
      clear hK K
      refine wpQuiet_step (fun K hK => ?_)
      go_simp
      refine ⟨_, fun w' hw' => rfl, hK _ ?_⟩
      clear hK K
      refine wpQuiet_step (fun K hK => ?_)
      go_simp
      refine ⟨_, fun w' hw' => rfl, hK _ ?_⟩
      clear hK K
      refine wpQuiet_step (fun K hK => ?_)
      go_simp
      refine ⟨_, fun w' hw' => rfl, hK _ ?_⟩
      clear hK K
      refine wpQuiet_step (fun K hK => ?_)
      go_simp
      refine ⟨_, fun w' hw' => rfl, hK _ ?_⟩
      clear hK K
      refine wpQuiet_step (fun K hK => ?_)
      go_simp
      apply Exists.intro
      refine And.intro (fun w' hw' => ?_) (hK _ ?_)
      · obtain ⟨hc', hf'⟩ := bcell hw'
        go_simp
        first | rfl | exact ⟨rfl, rfl⟩ | exact ⟨rfl⟩
      clear hK K
      refine wpQuiet_step (fun K hK => ?_)
      go_simp
      refine ⟨_, fun w' hw' => rfl, hK _ ?_⟩
      clear hK K
      refine wpQuiet_step (fun K hK => ?_)
      go_simp
      refine ⟨_, fun w' hw' => rfl, hK _ ?_⟩
      clear hK K
      refine wpQuiet_step (fun K hK => ?_)
      go_simp
      apply Exists.intro
      refine And.intro (fun w' hw' => ?_) (hK _ ?_)
      · obtain ⟨hc', hf'⟩ := bcell hw'
        go_simp
        first | rfl | exact ⟨rfl, rfl⟩ | exact ⟨rfl⟩
      clear hK K
      refine wpQuiet_step (fun K hK => ?_)
      go_simp
      refine ⟨_, fun w' hw' => rfl, hK _ ?_⟩
      clear hK K
      refine wpQuiet_step (fun K hK => ?_)
      go_simp
      apply Exists.intro
      refine And.intro (fun w' hw' => ?_) (hK _ ?_)
      · refine (((unhide HSM) ▸ hasPlace_any (d.L q).key d.m _ hm)).mono ?_
        rintro e w'' ⟨rfl, hb⟩
        exact ⟨rfl, hw'.trans (hb.mono hw'.size)⟩
      clear hK K
      refine wpQuiet_step (fun K hK => ?_)
      go_simp
      refine ⟨_, fun w' hw' => rfl, hK _ ?_⟩
      clear hK K
      refine wpQuiet_nil ?_
      intro w2 hw2
      have HB2 := hide ((unhide HB).trans (hw2.mono hbsz))
      have hsz2 : w.heap.size < w2.heap.size := Nat.lt_of_lt_of_le hwz hw2.size
      have g0 := (hw2.cell (p := ⟨w.heap.size, 0, none⟩) hwz).trans c0
      have g1 := (hw2.cell (p := ⟨w.heap.size, 1, none⟩) hwz).trans c1
      have g2 := (hw2.cell (p := ⟨w.heap.size, 2, none⟩) hwz).trans c2
      have g3 := (hw2.cell (p := ⟨w.heap.size, 3, none⟩) hwz).trans c3
      have g4 := (hw2.cell (p := ⟨w.heap.size, 4, none⟩) hwz).trans c4
      have g5 := (hw2.cell (p := ⟨w.heap.size, 5, none⟩) hwz).trans c5
      clear hw2 c0 c1 c2 c3 c4 c5
      go_wp2
      go_roundw
      case rel => exact ⟨k + 1, by omega, by go_num, by rw [unhide HU]; go_num, fun j hj => (by by_cases e : j = k; exact e ▸ unhide HO; exact unhide HALL j (by omega)), hsz2, g0, g1, g2, g3, g4, g5, unhide HB2⟩
      case measure => simp [intOf]; omega
end Go.Proofs.YtglcaejddckleaaGreatDoor

namespace Go.Proofs.YtglcaejddckleaaGreatDoor
open Go.RowKit
set_option linter.unusedVariables false
attribute [local go_sem] run_store_float run_equalIn_float
theorem run_store_func {P : Program} {w : World} {a : Addr} {m : Mode} (f : Fn) (x y : Array Value) : (store a (.func f x y) m).run P w = stored P w a (.func f x y) m := run_store P w a _ m rfl
attribute [local go_sem] run_store_func

/-- All blocks but R are as they were. -/
structure Fil (R : Nat) (u w : World) : Prop where
  os : w.os = u.os
  tape : w.tape = u.tape
  output : w.output = u.output
  size : u.heap.size ≤ w.heap.size
  block : ∀ q, q < u.heap.size → q ≠ R → w.heap[q]? = u.heap[q]?
theorem Fil.refl (R : Nat) (u : World) : Fil R u u := ⟨rfl, rfl, rfl, Nat.le_refl _, fun _ _ _ => rfl⟩
theorem Fil.trans {R : Nat} {a b c : World} (h : Fil R a b) (h' : Fil R b c) : Fil R a c := ⟨h'.os.trans h.os, h'.tape.trans h.tape, h'.output.trans h.output, Nat.le_trans h.size h'.size, fun q hq hr => (h'.block q (Nat.lt_of_lt_of_le hq h.size) hr).trans (h.block q hq hr)⟩
theorem Fil.alloc {R : Nat} {a b : World} (h : Fil R a b) (o : Obj) : Fil R a (b.alloc o) := ⟨h.os, h.tape, h.output, by simp; have := h.size; omega, fun q hq hr => (Deep.blk_alloc_lt _ _ _ (Nat.lt_of_lt_of_le hq h.size)).trans (h.block q hq hr)⟩
theorem Fil.setCell {R : Nat} {a b : World} (h : Fil R a b) (o : Nat) (v : Value) : Fil R a (b.setCell ⟨R, o, none⟩ v) := ⟨h.os, h.tape, h.output, by simpa using h.size, fun q hq hr => (Deep.blk_setCell_other _ _ _ _ (by exact hr)).trans (h.block q hq hr)⟩
theorem Fil.drew {R : Nat} {a b : World} (h : Fil R a b) : Fil R a b.drew := ⟨h.os, h.tape, h.output, h.size, h.block⟩
theorem Fil.cell {R : Nat} {a b : World} (h : Fil R a b) {q o : Nat} (hq : q < a.heap.size) (hr : q ≠ R) : b.cell? ⟨q, o, none⟩ = a.cell? ⟨q, o, none⟩ := World.cell?_of_block (h.block q hq hr)
theorem Fil.frozen {R : Nat} {a b : World} (h : Fil R a b) {q o : Nat} (hq : q < a.heap.size) (hr : q ≠ R) : b.frozen? ⟨q, o, none⟩ = a.frozen? ⟨q, o, none⟩ := World.frozen?_of_block (h.block q hq hr)
theorem Fil.below {R B : Nat} {a b : World} (h : Fil R a b) (hB : B ≤ a.heap.size) (hR : B ≤ R) : Below B a b := ⟨h.os, h.tape, h.output, h.size, fun k hk => h.block k (by omega) (by omega)⟩
theorem Fil.of_below {R : Nat} {a b : World} (h : Below a.heap.size a b) : Fil R a b := ⟨h.os, h.tape, h.output, h.size, fun q hq _ => h.block q hq⟩

/-- The cells of an entry. -/
abbrev entA (p : Pr) (i : Nat) : Array Value := #[.int .i64 p.key.kind, .int .i64 p.key.num, .float .f64 p.key.flt, .string p.key.str, .int .i64 p.key.ref, .int .i64 p.val.kind, .int .i64 p.val.num, .float .f64 p.val.flt, .string p.val.str, .int .i64 p.val.ref, .int .i64 p.turn, .int .i64 (i : Int)]
/-- The cells of a slot that is filled. -/
abbrev sltA (v : Vl) (e : Nat) : Array Value := #[.int .i64 v.kind, .int .i64 v.num, .float .f64 v.flt, .string v.str, .int .i64 v.ref, .pointer (some ⟨e, 0, none⟩), .bool false]
/-- The cells of a slot that was left. -/
abbrev goneA : Array Value := #[.int .i64 0, .int .i64 0, .float .f64 0, .string ⟨#[]⟩, .int .i64 0, .pointer none, .bool true]

/-- An entry of a book. -/
structure ECell (w : World) (b : Nat) (p : Pr) (i : Nat) : Prop where
  lt : b < w.heap.size
  k0 : w.cell? ⟨b, 0, none⟩ = some (.int .i64 p.key.kind)
  k1 : w.cell? ⟨b, 1, none⟩ = some (.int .i64 p.key.num)
  k2 : w.cell? ⟨b, 2, none⟩ = some (.float .f64 p.key.flt)
  k3 : w.cell? ⟨b, 3, none⟩ = some (.string p.key.str)
  k4 : w.cell? ⟨b, 4, none⟩ = some (.int .i64 p.key.ref)
  v0 : w.cell? ⟨b, 5, none⟩ = some (.int .i64 p.val.kind)
  v1 : w.cell? ⟨b, 6, none⟩ = some (.int .i64 p.val.num)
  v2 : w.cell? ⟨b, 7, none⟩ = some (.float .f64 p.val.flt)
  v3 : w.cell? ⟨b, 8, none⟩ = some (.string p.val.str)
  v4 : w.cell? ⟨b, 9, none⟩ = some (.int .i64 p.val.ref)
  tn : w.cell? ⟨b, 10, none⟩ = some (.int .i64 p.turn)
  pl : w.cell? ⟨b, 11, none⟩ = some (.int .i64 (i : Int))
  ob : w.heap[b]? = some (.cells (entA p i) 92 (0, 0))
theorem ECell.keep {w w' : World} {b : Nat} {p : Pr} {i : Nat} (h : ECell w b p i) (hs : w.heap.size ≤ w'.heap.size) (e : w'.heap[b]? = w.heap[b]?) : ECell w' b p i := by
  have e' : ∀ o, w'.cell? ⟨b, o, none⟩ = w.cell? ⟨b, o, none⟩ := fun o => World.cell?_of_block e
  exact ⟨Nat.lt_of_lt_of_le h.lt hs, (e' _).trans h.k0, (e' _).trans h.k1, (e' _).trans h.k2, (e' _).trans h.k3, (e' _).trans h.k4, (e' _).trans h.v0, (e' _).trans h.v1, (e' _).trans h.v2, (e' _).trans h.v3, (e' _).trans h.v4, (e' _).trans h.tn, (e' _).trans h.pl, e.trans h.ob⟩

theorem ECell.drew {w : World} {b : Nat} {p : Pr} {i : Nat} (h : ECell w b p i) : ECell w.drew b p i := h.keep (Nat.le_refl _) rfl

/-- A slot that is filled. -/
structure SCell (w : World) (b : Nat) (v : Vl) (e : Nat) : Prop where
  lt : b < w.heap.size
  k0 : w.cell? ⟨b, 0, none⟩ = some (.int .i64 v.kind)
  k1 : w.cell? ⟨b, 1, none⟩ = some (.int .i64 v.num)
  k2 : w.cell? ⟨b, 2, none⟩ = some (.float .f64 v.flt)
  k3 : w.cell? ⟨b, 3, none⟩ = some (.string v.str)
  k4 : w.cell? ⟨b, 4, none⟩ = some (.int .i64 v.ref)
  pt : w.cell? ⟨b, 5, none⟩ = some (.pointer (some ⟨e, 0, none⟩))
  gn : w.cell? ⟨b, 6, none⟩ = some (.bool false)
  ob : w.heap[b]? = some (.cells (sltA v e) 119 (0, 0))
theorem SCell.keep {w w' : World} {b : Nat} {v : Vl} {i : Nat} (h : SCell w b v i) (hs : w.heap.size ≤ w'.heap.size) (e : w'.heap[b]? = w.heap[b]?) : SCell w' b v i := by
  have e' : ∀ o, w'.cell? ⟨b, o, none⟩ = w.cell? ⟨b, o, none⟩ := fun o => World.cell?_of_block e
  exact ⟨Nat.lt_of_lt_of_le h.lt hs, (e' _).trans h.k0, (e' _).trans h.k1, (e' _).trans h.k2, (e' _).trans h.k3, (e' _).trans h.k4, (e' _).trans h.pt, (e' _).trans h.gn, e.trans h.ob⟩

def entP (E : Nat → Nat) (p : Int) : Option Addr := if 0 < p then some ⟨E (p - 1).toNat, 0, none⟩ else none
def sltP (S : Nat → Nat) (j : Nat) (p : Int) : Option Addr := if p = 0 then none else some ⟨S j, 0, none⟩

/-- A slot that was left. -/
structure GCell (w : World) (b : Nat) : Prop where
  lt : b < w.heap.size
  gn : w.cell? ⟨b, 6, none⟩ = some (.bool true)
  ob : w.heap[b]? = some (.cells goneA 119 (0, 0))
theorem GCell.keep {w w' : World} {b : Nat} (h : GCell w b) (hs : w.heap.size ≤ w'.heap.size) (e : w'.heap[b]? = w.heap[b]?) : GCell w' b :=
  ⟨Nat.lt_of_lt_of_le h.lt hs, (World.cell?_of_block (a := ⟨b, 6, none⟩) e).trans h.gn, e.trans h.ob⟩

/-- What lies at slot j. -/
def SlotIs (w : World) (E S : Nat → Nat) (d : Dc) (j : Nat) : Prop :=
  (0 < d.X j → SCell w (S j) (d.at (d.X j)).key (E (d.X j - 1).toNat)) ∧ (d.X j < 0 → GCell w (S j))

abbrev hashF : Value := .func (.func 94) #[] #[]

/-- A book. -/
structure Book (w : World) (bk R0 R1 R2 : Nat) (E S : Nat → Nat) (d : Dc) : Prop where
  lt : bk < w.heap.size
  c0 : ∃ a k, w.cell? ⟨bk, 0, none⟩ = some (.slice a d.n k) ∧ (0 < d.n → a = some ⟨R0, 0, none⟩)
  c1 : ∃ k, w.cell? ⟨bk, 1, none⟩ = some (.slice (some ⟨R1, 0, none⟩) d.m k)
  c2 : w.cell? ⟨bk, 2, none⟩ = some hashF
  c3 : w.cell? ⟨bk, 3, none⟩ = some (.slice (some ⟨R2, 0, none⟩) d.x d.x)
  c4 : w.cell? ⟨bk, 4, none⟩ = some (.int .i64 d.used)
  c5 : w.cell? ⟨bk, 5, none⟩ = some (.int .i64 d.live)
  c6 : w.cell? ⟨bk, 6, none⟩ = some (.int .i64 d.turns)
  r0 : ∀ i, i < d.n → w.cell? ⟨R0, i, none⟩ = some (.pointer (some ⟨E i, 0, none⟩))
  ent : ∀ i, i < d.n → ECell w (E i) (d.L i) i
  inj : ∀ i j, i < d.n → j < d.n → E i = E j → i = j
  r1 : ∀ i, i < d.m → w.cell? ⟨R1, i, none⟩ = some (.pointer (entP E (d.I i)))
  r2 : ∀ j, j < d.x → w.cell? ⟨R2, j, none⟩ = some (.pointer (sltP S j (d.X j)))
  sl : ∀ j, j < d.x → SlotIs w E S d j
  l0 : R0 < w.heap.size
  l1 : R1 < w.heap.size
  l2 : R2 < w.heap.size
theorem Book.below {w w' : World} {bk R0 R1 R2 : Nat} {E S : Nat → Nat} {d : Dc} (h : Book w bk R0 R1 R2 E S d) (hb : Below w.heap.size w w') : Book w' bk R0 R1 R2 E S d := by
  have e : ∀ q o, q < w.heap.size → w'.cell? ⟨q, o, none⟩ = w.cell? ⟨q, o, none⟩ := fun q o hq => hb.cell (p := ⟨q, o, none⟩) hq
  refine ⟨Nat.lt_of_lt_of_le h.lt hb.size, by obtain ⟨a, k, h1, h2⟩ := h.c0; exact ⟨a, k, (e _ _ h.lt).trans h1, h2⟩, by obtain ⟨k, h1⟩ := h.c1; exact ⟨k, (e _ _ h.lt).trans h1⟩, (e _ _ h.lt).trans h.c2, (e _ _ h.lt).trans h.c3, (e _ _ h.lt).trans h.c4, (e _ _ h.lt).trans h.c5, (e _ _ h.lt).trans h.c6, fun i hi => (e _ _ h.l0).trans (h.r0 i hi), fun i hi => (h.ent i hi).keep hb.size (hb.block _ (h.ent i hi).lt), h.inj, fun i hi => (e _ _ h.l1).trans (h.r1 i hi), fun i hi => (e _ _ h.l2).trans (h.r2 i hi), fun j hj => ⟨fun hp => ((h.sl j hj).1 hp).keep hb.size (hb.block _ ((h.sl j hj).1 hp).lt), fun hp => ((h.sl j hj).2 hp).keep hb.size (hb.block _ ((h.sl j hj).2 hp).lt)⟩, Nat.lt_of_lt_of_le h.l0 hb.size, Nat.lt_of_lt_of_le h.l1 hb.size, Nat.lt_of_lt_of_le h.l2 hb.size⟩

theorem infoEnt : (Tryz.prog.info? 89).map (fun i => (i.zero, i.size, i.bytes)) = some (some (.pointer none), 1, 8) := by kernel_rfl
theorem infoSlot : (Tryz.prog.info? 117).map (fun i => (i.zero, i.size, i.bytes)) = some (some (.pointer none), 1, 8) := by kernel_rfl
theorem make_ptrs {tS tE : TypeId} (hu : Tryz.prog.underlying tS = some (.slice tE)) (hi : (Tryz.prog.info? tE).map (fun i => (i.zero, i.size, i.bytes)) = some (some (.pointer none), 1, 8)) (n : Nat) (hn : n ≤ 4194304) (w : World) :
    (Instr.makeSlice tS (.int .i64 (n : Int)) (.int .i64 (n : Int))).run Tryz.prog w = .ok (.slice (some ⟨w.heap.size, 0, none⟩) n n) (w.alloc (.cells (madeCells (Value.pointer none).cells n) tE)) := by
  obtain ⟨i, hi, hz, hs, hb⟩ := info_parts hi
  have := run_make (P := Tryz.prog) w tS tE i _ hu hi hz .i64 .i64 n n (by omega) (Int.le_refl _) (by rw [hb]; omega) (by omega)
  simp only [Int.toNat_natCast, hs, Nat.mul_one] at this
  exact this
theorem made_nils (w : World) (n : Nat) (tE : TypeId) : (w.alloc (.cells (madeCells (Value.pointer none).cells n) tE)).rowIs w.heap.size tE n (fun _ => .pointer none) := by
  have h := World.rowIs_alloc w (madeCells (Value.pointer none).cells n) tE (fun _ => .pointer none) (fun i hi => by
    rw [size_madeCells] at hi
    unfold madeCells
    simp [Value.cells, hi, Nat.mod_one])
  rw [size_madeCells] at h
  exact h

/-- A row of pointers, the first k laid. -/
def Ptrs (w : World) (R n : Nat) (tE : TypeId) (f : Nat → Option Addr) : Prop := ∃ g, w.rowIs R tE n g ∧ ∀ i, i < n → g i = .pointer (f i)
theorem Ptrs.cell {w : World} {R n : Nat} {tE : TypeId} {f : Nat → Option Addr} (h : Ptrs w R n tE f) {i : Nat} (hi : i < n) : w.cell? ⟨R, i, none⟩ = some (.pointer (f i)) := by
  obtain ⟨g, hr, hg⟩ := h
  rw [hr.cell hi, hg i hi]
theorem Ptrs.frozen {w : World} {R n : Nat} {tE : TypeId} {f : Nat → Option Addr} (h : Ptrs w R n tE f) (i : Nat) : w.frozen? ⟨R, i, none⟩ = false := by
  obtain ⟨g, hr, hg⟩ := h
  exact hr.frozen i
theorem Ptrs.lt {w : World} {R n : Nat} {tE : TypeId} {f : Nat → Option Addr} (h : Ptrs w R n tE f) : R < w.heap.size := by
  obtain ⟨g, hr, hg⟩ := h
  exact hr.lt
theorem Ptrs.keep {w w' : World} {R n : Nat} {tE : TypeId} {f : Nat → Option Addr} (h : Ptrs w R n tE f) (e : w'.heap[R]? = w.heap[R]?) : Ptrs w' R n tE f := by
  obtain ⟨g, hr, hg⟩ := h
  exact ⟨g, hr.of_block e, hg⟩
theorem Ptrs.set {w : World} {R n q : Nat} {tE : TypeId} {f : Nat → Option Addr} (h : Ptrs w R n tE f) (p : Option Addr) : Ptrs (w.setCell ⟨R, q, none⟩ (.pointer p)) R n tE (fun i => if i = q then p else f i) := by
  obtain ⟨g, hr, hg⟩ := h
  refine ⟨_, hr.set q _, fun i hi => ?_⟩
  by_cases e : i = q
  · subst e; simp
  · simp only [e, if_false]; exact hg i hi
theorem Ptrs.congr {w : World} {R n : Nat} {tE : TypeId} {f f' : Nat → Option Addr} (h : Ptrs w R n tE f) (e : ∀ i, i < n → f' i = f i) : Ptrs w R n tE f' := by
  obtain ⟨g, hr, hg⟩ := h
  exact ⟨g, hr, fun i hi => by rw [e i hi]; exact hg i hi⟩

/-- An entry made anew. -/
theorem entry_new (w : World) (p : Pr) (k : Nat) : ECell (w.alloc (.cells (entA p k) 92)) w.heap.size p k :=
  ⟨by simp, by simp [go_sem], by simp [go_sem], by simp [go_sem], by simp [go_sem], by simp [go_sem], by simp [go_sem], by simp [go_sem], by simp [go_sem], by simp [go_sem], by simp [go_sem], by simp [go_sem], by simp [go_sem], Deep.blk_alloc_new _ _⟩

/-- A book that is being made. -/
structure Bk (w v : World) (xa : Option Addr) (xc : Nat) (d : Dc) (E : Nat → Nat) (s1 s2 s3 s4 : Value) : Prop where
  below : Below w.heap.size w v
  sz : w.heap.size + 3 ≤ v.heap.size
  a2 : v.cell? ⟨w.heap.size, 2, none⟩ = some (.slice xa d.x xc)
  a3 : v.cell? ⟨w.heap.size, 3, none⟩ = some (.int .i64 d.used)
  b0 : v.cell? ⟨w.heap.size + 1, 0, none⟩ = some (.slice (some ⟨w.heap.size + 1 + 1, 0, none⟩) d.n d.n)
  b1 : v.cell? ⟨w.heap.size + 1, 1, none⟩ = some s1
  b2 : v.cell? ⟨w.heap.size + 1, 2, none⟩ = some s2
  b3 : v.cell? ⟨w.heap.size + 1, 3, none⟩ = some s3
  b4 : v.cell? ⟨w.heap.size + 1, 4, none⟩ = some s4
  b5 : v.cell? ⟨w.heap.size + 1, 5, none⟩ = some (.int .i64 d.live)
  b6 : v.cell? ⟨w.heap.size + 1, 6, none⟩ = some (.int .i64 d.turns)
  fz : ∀ o, v.frozen? ⟨w.heap.size + 1, o, none⟩ = false
  ptr : Ptrs v (w.heap.size + 1 + 1) d.n 89 (fun i => some ⟨E i, 0, none⟩)
  ent : ∀ i, i < d.n → ECell v (E i) (d.L i) i ∧ w.heap.size + 3 ≤ E i
theorem Bk.fil {w v v' : World} {xa : Option Addr} {xc R : Nat} {d : Dc} {E : Nat → Nat} {s1 s2 s3 s4 : Value} (h : Bk w v xa xc d E s1 s2 s3 s4) (hF : Fil R v v') (hR : w.heap.size + 3 ≤ R) (hE : ∀ i, i < d.n → E i ≠ R) : Bk w v' xa xc d E s1 s2 s3 s4 := by
  have hz := h.sz
  have e0 : ∀ o, v'.cell? ⟨w.heap.size, o, none⟩ = v.cell? ⟨w.heap.size, o, none⟩ := fun o => hF.cell (by omega) (by omega)
  have e1 : ∀ o, v'.cell? ⟨w.heap.size + 1, o, none⟩ = v.cell? ⟨w.heap.size + 1, o, none⟩ := fun o => hF.cell (by omega) (by omega)
  exact ⟨h.below.trans (hF.below (by omega) (by omega)), Nat.le_trans h.sz hF.size, (e0 _).trans h.a2, (e0 _).trans h.a3, (e1 _).trans h.b0, (e1 _).trans h.b1, (e1 _).trans h.b2, (e1 _).trans h.b3, (e1 _).trans h.b4, (e1 _).trans h.b5, (e1 _).trans h.b6, fun o => (hF.frozen (by omega) (by omega)).trans (h.fz o), h.ptr.keep (hF.block _ (by omega) (by omega)), fun i hi => ⟨(h.ent i hi).1.keep hF.size (hF.block _ (h.ent i hi).1.lt (hE i hi)), (h.ent i hi).2⟩⟩
theorem Bk.alloc {w v : World} {xa : Option Addr} {xc : Nat} {d : Dc} {E : Nat → Nat} {s1 s2 s3 s4 : Value} (h : Bk w v xa xc d E s1 s2 s3 s4) (o : Obj) : Bk w (v.alloc o) xa xc d E s1 s2 s3 s4 :=
  h.fil (R := v.heap.size) ((Fil.refl _ _).alloc o) h.sz (fun i hi => Nat.ne_of_lt (h.ent i hi).1.lt)
theorem Bk.of_set {w v : World} {xa : Option Addr} {xc o : Nat} {d : Dc} {E : Nat → Nat} {u s1 s2 s3 s4 s1' s2' s3' s4' : Value} (h : Bk w v xa xc d E s1 s2 s3 s4)
    (g0 : o ≠ 0) (g5 : o ≠ 5) (g6 : o ≠ 6)
    (g1 : (v.setCell ⟨w.heap.size + 1, o, none⟩ u).cell? ⟨w.heap.size + 1, 1, none⟩ = some s1') (g2 : (v.setCell ⟨w.heap.size + 1, o, none⟩ u).cell? ⟨w.heap.size + 1, 2, none⟩ = some s2') (g3 : (v.setCell ⟨w.heap.size + 1, o, none⟩ u).cell? ⟨w.heap.size + 1, 3, none⟩ = some s3') (g4 : (v.setCell ⟨w.heap.size + 1, o, none⟩ u).cell? ⟨w.heap.size + 1, 4, none⟩ = some s4') : Bk w (v.setCell ⟨w.heap.size + 1, o, none⟩ u) xa xc d E s1' s2' s3' s4' := by
  have hz := h.sz
  refine ⟨h.below.setCell (by show _ ≤ w.heap.size + 1; omega) _, by simpa using h.sz, (cell_set_block (by omega)).trans h.a2, (cell_set_block (by omega)).trans h.a3, (cell_set_other g0).trans h.b0, g1, g2, g3, g4, (cell_set_other g5).trans h.b5, (cell_set_other g6).trans h.b6, fun q => by rw [World.frozen?_setCell]; exact h.fz q, h.ptr.keep (Deep.blk_setCell_other _ _ _ _ (by show w.heap.size + 1 + 1 ≠ w.heap.size + 1; omega)), fun i hi => ⟨(h.ent i hi).1.keep (by simp) (Deep.blk_setCell_other _ _ _ _ (by show E i ≠ w.heap.size + 1; have := (h.ent i hi).2; omega)), (h.ent i hi).2⟩⟩
theorem Bk.set1 {w v : World} {xa : Option Addr} {xc : Nat} {d : Dc} {E : Nat → Nat} {s1 s2 s3 s4 : Value} (h : Bk w v xa xc d E s1 s2 s3 s4) (u : Value) : Bk w (v.setCell ⟨w.heap.size + 1, 1, none⟩ u) xa xc d E u s2 s3 s4 :=
  h.of_set (by decide) (by decide) (by decide) (World.cell?_setCell_same' _ _ _ (by rw [h.b1]; rfl)) ((cell_set_other (by decide)).trans h.b2) ((cell_set_other (by decide)).trans h.b3) ((cell_set_other (by decide)).trans h.b4)
theorem Bk.set2 {w v : World} {xa : Option Addr} {xc : Nat} {d : Dc} {E : Nat → Nat} {s1 s2 s3 s4 : Value} (h : Bk w v xa xc d E s1 s2 s3 s4) (u : Value) : Bk w (v.setCell ⟨w.heap.size + 1, 2, none⟩ u) xa xc d E s1 u s3 s4 :=
  h.of_set (by decide) (by decide) (by decide) ((cell_set_other (by decide)).trans h.b1) (World.cell?_setCell_same' _ _ _ (by rw [h.b2]; rfl)) ((cell_set_other (by decide)).trans h.b3) ((cell_set_other (by decide)).trans h.b4)
theorem Bk.set3 {w v : World} {xa : Option Addr} {xc : Nat} {d : Dc} {E : Nat → Nat} {s1 s2 s3 s4 : Value} (h : Bk w v xa xc d E s1 s2 s3 s4) (u : Value) : Bk w (v.setCell ⟨w.heap.size + 1, 3, none⟩ u) xa xc d E s1 s2 u s4 :=
  h.of_set (by decide) (by decide) (by decide) ((cell_set_other (by decide)).trans h.b1) ((cell_set_other (by decide)).trans h.b2) (World.cell?_setCell_same' _ _ _ (by rw [h.b3]; rfl)) ((cell_set_other (by decide)).trans h.b4)
theorem Bk.set4 {w v : World} {xa : Option Addr} {xc : Nat} {d : Dc} {E : Nat → Nat} {s1 s2 s3 s4 : Value} (h : Bk w v xa xc d E s1 s2 s3 s4) (u : Value) : Bk w (v.setCell ⟨w.heap.size + 1, 4, none⟩ u) xa xc d E s1 s2 s3 u :=
  h.of_set (by decide) (by decide) (by decide) ((cell_set_other (by decide)).trans h.b1) ((cell_set_other (by decide)).trans h.b2) ((cell_set_other (by decide)).trans h.b3) (World.cell?_setCell_same' _ _ _ (by rw [h.b4]; rfl))
theorem Ptrs.fresh (w : World) (n : Nat) (tE : TypeId) : Ptrs (w.alloc (.cells (madeCells #[.pointer none] n) tE)) w.heap.size n tE (fun _ => none) := by
  have := made_nils w n tE
  exact ⟨_, by simpa [Value.cells] using this, fun i hi => rfl⟩
theorem slot_new (w : World) (v : Vl) (e : Nat) : SCell (w.alloc (.cells (sltA v e) 119)) w.heap.size v e :=
  ⟨by simp, by simp [go_sem], by simp [go_sem], by simp [go_sem], by simp [go_sem], by simp [go_sem], by simp [go_sem], by simp [go_sem], Deep.blk_alloc_new _ _⟩

/-- A book that was just opened: its rows are its own. -/
structure Strong (w : World) (B bk R0 R1 R2 : Nat) (E S : Nat → Nat) (d : Dc) : Prop where
  e0 : w.cell? ⟨bk, 0, none⟩ = some (.slice (some ⟨R0, 0, none⟩) d.n d.n)
  e1 : w.cell? ⟨bk, 1, none⟩ = some (.slice (some ⟨R1, 0, none⟩) d.m d.m)
  fz : ∀ o, w.frozen? ⟨bk, o, none⟩ = false
  o0 : Ptrs w R0 d.n 89 (fun i => some ⟨E i, 0, none⟩)
  o1 : Ptrs w R1 d.m 89 (fun i => entP E (d.I i))
  o2 : Ptrs w R2 d.x 117 (fun j => sltP S j (d.X j))
  r01 : R0 ≠ R1
  gb : B ≤ bk
  g0 : bk < R0
  g1 : bk < R1
  g2 : bk < R2
  gE : ∀ i, i < d.n → bk < E i
  gS : ∀ j, j < d.x → d.X j ≠ 0 → R2 < S j

set_option maxRecDepth 100000 in
set_option maxHeartbeats 4000000 in
theorem openBook_own (la : Option Addr) (lc : Nat) (ia : Option Addr) (ic : Nat) (xa : Option Addr) (xc : Nat) (d : Dc) (w : World) (hD : DAt w la ia xa d) (hS : Small d) (h3 : D3 d) (h4 : D4 d) :
    Calls Tryz.prog 52 #[Dv la lc ia ic xa xc d] w fun e w' => (∃ bk R0 R1 R2 E S, e = .returned (.pointer (some ⟨bk, 0, none⟩)) ∧ Book w' bk R0 R1 R2 E S d ∧ Strong w' w.heap.size bk R0 R1 R2 E S d) ∧ Below w.heap.size w w' := by
  have hn := hS.n
  have hm := hS.m
  have hx := hS.x
  have HD := hide hD
  have H3 := hide h3
  have H4 := hide h4
  clear hD hS h3 h4
  have mk1 := make_ptrs Tryz.underlying110 infoEnt d.n hn
  go_enter Tryz.func52, Tryz.ntmps52
  go_wp2_with fail
  obtain ⟨u1, hu1⟩ : ∃ u1, u1 = (((w.alloc (.cells #[.slice la d.n lc, .slice ia d.m ic, .slice xa d.x xc, .int .i64 d.used, .int .i64 d.live, .int .i64 d.turns] 26)).alloc (.cells #[.slice (some ⟨w.heap.size + 1 + 1, 0, none⟩) d.n d.n, .slice none 0 0, .nilFunc, .slice none 0 0, .int .i64 0, .int .i64 d.live, .int .i64 d.turns] 116)).alloc (.cells (madeCells #[.pointer none] d.n) 89)) := ⟨_, rfl⟩
  rw [← hu1]
  have zu1 : u1.heap.size = w.heap.size + 3 := by rw [hu1]; simp
  have HBu1 : Hid (Below w.heap.size w u1) := hide (by rw [hu1]; exact (((Below.refl _ _).alloc (Nat.le_refl _) _).alloc (by simp) _).alloc (by simp; omega) _)
  have HP1 : Hid (Ptrs u1 (w.heap.size + 1 + 1) d.n 89 (fun _ => none)) := hide (by
    rw [hu1]
    have := made_nils ((w.alloc (.cells #[.slice la d.n lc, .slice ia d.m ic, .slice xa d.x xc, .int .i64 d.used, .int .i64 d.live, .int .i64 d.turns] 26)).alloc (.cells #[.slice (some ⟨w.heap.size + 1 + 1, 0, none⟩) d.n d.n, .slice none 0 0, .nilFunc, .slice none 0 0, .int .i64 0, .int .i64 d.live, .int .i64 d.turns] 116)) d.n 89
    exact ⟨_, by simpa [Value.cells] using this, fun i hi => rfl⟩)
  have a1 : u1.cell? ⟨w.heap.size, 1, none⟩ = some (.slice ia d.m ic) := by rw [hu1]; simp [go_sem]
  have a2 : u1.cell? ⟨w.heap.size, 2, none⟩ = some (.slice xa d.x xc) := by rw [hu1]; simp [go_sem]
  have a3 : u1.cell? ⟨w.heap.size, 3, none⟩ = some (.int .i64 d.used) := by rw [hu1]; simp [go_sem]
  have b0 : u1.cell? ⟨w.heap.size + 1, 0, none⟩ = some (.slice (some ⟨w.heap.size + 1 + 1, 0, none⟩) d.n d.n) := by rw [hu1]; simp [go_sem]
  have b1 : u1.cell? ⟨w.heap.size + 1, 1, none⟩ = some (.slice none 0 0) := by rw [hu1]; simp [go_sem]
  have b2 : u1.cell? ⟨w.heap.size + 1, 2, none⟩ = some .nilFunc := by rw [hu1]; simp [go_sem]
  have b3 : u1.cell? ⟨w.heap.size + 1, 3, none⟩ = some (.slice none 0 0) := by rw [hu1]; simp [go_sem]
  have b4 : u1.cell? ⟨w.heap.size + 1, 4, none⟩ = some (.int .i64 0) := by rw [hu1]; simp [go_sem]
  have b5 : u1.cell? ⟨w.heap.size + 1, 5, none⟩ = some (.int .i64 d.live) := by rw [hu1]; simp [go_sem]
  have b6 : u1.cell? ⟨w.heap.size + 1, 6, none⟩ = some (.int .i64 d.turns) := by rw [hu1]; simp [go_sem]
  have f1 : ∀ o, u1.frozen? ⟨w.heap.size + 1, o, none⟩ = false := by intro o; rw [hu1]; simp [go_sem]
  clear hu1 mk1
  go_loopw [26] (fun i wr => ∃ (k : Nat) (E : Nat → Nat), k ≤ d.n ∧ i = .int .i64 k ∧ Fil (w.heap.size + 1 + 1) u1 wr ∧ Ptrs wr (w.heap.size + 1 + 1) d.n 89 (fun i => if i < k then some ⟨E i, 0, none⟩ else none) ∧ (∀ i, i < k → ECell wr (E i) (d.L i) i ∧ w.heap.size + 3 ≤ E i) ∧ ∀ i j, i < k → j < k → E i = E j → i = j) (fun i _ => d.n - (intOf i).toNat)
  case atStart => exact ⟨0, fun _ => 0, by omega, rfl, Fil.refl _ _, (unhide HP1).congr (fun i hi => if_neg (by omega)), fun i hi => by omega, fun i j hi => by omega⟩
  case round =>
    clear HP1
    obtain ⟨k, E, hk, rfl, hF, hP, hE, hinj⟩ := hrel
    by_cases hkn : k < d.n
    · obtain ⟨b, off, rfl, hbl, hcs⟩ := (unhide HD).log.resolve_left (by omega)
      have hwr : Below w.heap.size w wr := (unhide HBu1).trans (hF.below (by omega) (by omega))
      obtain ⟨e0, e1, e2, e3, e4, e5, e6, e7, e8, e9, e10⟩ := (hcs k hkn).keep (fun q => hwr.cell (p := ⟨b, q, none⟩) hbl)
      have hzr := hF.size
      have HF := hide hF
      have HP := hide hP
      have HE := hide hE
      have HI := hide hinj
      have HWR := hide hwr
      have r0 := hP.cell hkn
      have r1 := hP.frozen k
      have p0 := (hF.cell (o := 0) (q := w.heap.size + 1) (by omega) (by omega)).trans b0
      clear hcs hF hP hE hinj hwr
      go_wp2_with fail
      obtain ⟨W, hW⟩ : ∃ W, W = wr.alloc (.cells #[.int .i64 (d.L k).key.kind, .int .i64 (d.L k).key.num, .float .f64 (d.L k).key.flt, .string (d.L k).key.str, .int .i64 (d.L k).key.ref, .int .i64 (d.L k).val.kind, .int .i64 (d.L k).val.num, .float .f64 (d.L k).val.flt, .string (d.L k).val.str, .int .i64 (d.L k).val.ref, .int .i64 (d.L k).turn] 43) := ⟨_, rfl⟩
      rw [← hW]
      have y0 : W.cell? ⟨wr.heap.size, 0, none⟩ = some (.int .i64 (d.L k).key.kind) := by rw [hW]; simp [go_sem]
      have y1 : W.cell? ⟨wr.heap.size, 1, none⟩ = some (.int .i64 (d.L k).key.num) := by rw [hW]; simp [go_sem]
      have y2 : W.cell? ⟨wr.heap.size, 2, none⟩ = some (.float .f64 (d.L k).key.flt) := by rw [hW]; simp [go_sem]
      have y3 : W.cell? ⟨wr.heap.size, 3, none⟩ = some (.string (d.L k).key.str) := by rw [hW]; simp [go_sem]
      have y4 : W.cell? ⟨wr.heap.size, 4, none⟩ = some (.int .i64 (d.L k).key.ref) := by rw [hW]; simp [go_sem]
      have y5 : W.cell? ⟨wr.heap.size, 5, none⟩ = some (.int .i64 (d.L k).val.kind) := by rw [hW]; simp [go_sem]
      have y6 : W.cell? ⟨wr.heap.size, 6, none⟩ = some (.int .i64 (d.L k).val.num) := by rw [hW]; simp [go_sem]
      have y7 : W.cell? ⟨wr.heap.size, 7, none⟩ = some (.float .f64 (d.L k).val.flt) := by rw [hW]; simp [go_sem]
      have y8 : W.cell? ⟨wr.heap.size, 8, none⟩ = some (.string (d.L k).val.str) := by rw [hW]; simp [go_sem]
      have y9 : W.cell? ⟨wr.heap.size, 9, none⟩ = some (.int .i64 (d.L k).val.ref) := by rw [hW]; simp [go_sem]
      have y10 : W.cell? ⟨wr.heap.size, 10, none⟩ = some (.int .i64 (d.L k).turn) := by rw [hW]; simp [go_sem]
      have hzW : W.heap.size = wr.heap.size + 1 := by rw [hW]; simp
      have hFW : Fil (w.heap.size + 1 + 1) wr W := by rw [hW]; exact (Fil.refl _ _).alloc _
      have q0 := (hFW.cell (o := 0) (q := w.heap.size + 1) (by omega) (by omega)).trans p0
      have hblk : W.heap[w.heap.size + 1 + 1]? = wr.heap[w.heap.size + 1 + 1]? := by rw [hW]; exact Deep.blk_alloc_lt _ _ _ (by omega)
      have HPW := hide ((unhide HP).keep hblk)
      have s0 := ((unhide HPW).cell hkn)
      have s1 := ((unhide HPW).frozen k)
      have HFW := hide hFW
      have HZW := hide hzW
      have hz1 : w.heap.size + 1 < W.heap.size := by omega
      have hz2 : w.heap.size + 1 + 1 < W.heap.size := by omega
      have hz3 : wr.heap.size < W.heap.size := by omega
      clear hW hFW hzW hblk e0 e1 e2 e3 e4 e5 e6 e7 e8 e9 e10 r0 r1 p0
      obtain ⟨W2, hW2⟩ : ∃ W2, W2 = ((W.setCell ⟨w.heap.size + 1 + 1, k, none⟩ (.pointer (some ⟨W.heap.size, 0, none⟩))).alloc (.cells #[.int .i64 (d.L k).key.kind, .int .i64 (d.L k).key.num, .float .f64 (d.L k).key.flt, .string (d.L k).key.str, .int .i64 (d.L k).key.ref, .int .i64 (d.L k).val.kind, .int .i64 (d.L k).val.num, .float .f64 (d.L k).val.flt, .string (d.L k).val.str, .int .i64 (d.L k).val.ref, .int .i64 (d.L k).turn, .int .i64 (k : Int)] 92)).drew := ⟨_, rfl⟩
      have hF2 : Fil (w.heap.size + 1 + 1) wr W2 := by rw [hW2]; exact (((unhide HFW).setCell _ _).alloc _).drew
      have hP2 : Ptrs W2 (w.heap.size + 1 + 1) d.n 89 (fun i => if i < k + 1 then some ⟨(fun i => if i = k then W.heap.size else E i) i, 0, none⟩ else none) := by
        refine (((unhide HPW).set (q := k) (some ⟨W.heap.size, 0, none⟩)).keep (w' := W2) ?_).congr (fun i hi => ?_)
        · rw [hW2]; exact Deep.blk_alloc_lt _ _ _ (by simpa using hz2)
        · by_cases e : i = k
          · subst e; simp
          · simp only [e, if_false]
            by_cases e2 : i < k
            · rw [if_pos (by omega), if_pos e2]
            · rw [if_neg (by omega), if_neg e2]
      have hE2 : ∀ i, i < k + 1 → ECell W2 ((fun i => if i = k then W.heap.size else E i) i) (d.L i) i ∧ w.heap.size + 3 ≤ (fun i => if i = k then W.heap.size else E i) i := by
        intro i hi
        by_cases e : i = k
        · subst e
          simp only [if_true]
          refine ⟨?_, by omega⟩
          have := entry_new (W.setCell ⟨w.heap.size + 1 + 1, i, none⟩ (.pointer (some ⟨W.heap.size, 0, none⟩))) (d.L i) i
          rw [hW2]
          refine ECell.drew ?_
          simpa using this
        · simp only [e, if_false]
          obtain ⟨h1, h2⟩ := unhide HE i (by omega)
          exact ⟨h1.keep hF2.size (hF2.block _ h1.lt (by omega)), h2⟩
      have hI2 : ∀ i j, i < k + 1 → j < k + 1 → (fun i => if i = k then W.heap.size else E i) i = (fun i => if i = k then W.heap.size else E i) j → i = j := by
        intro i j hi hj he
        have hzW := unhide HZW
        by_cases e : i = k
        · by_cases e2 : j = k
          · omega
          · simp only [e, e2, if_true, if_false] at he
            have := (unhide HE j (by omega)).1.lt
            omega
        · by_cases e2 : j = k
          · simp only [e, e2, if_true, if_false] at he
            have := (unhide HE i (by omega)).1.lt
            omega
          · simp only [e, e2, if_false] at he
            exact unhide HI i j (by omega) (by omega) he
      have HN := hide (⟨(unhide HF).trans hF2, hP2, hE2, hI2⟩ : Fil (w.heap.size + 1 + 1) u1 W2 ∧ _ ∧ _ ∧ _)
      clear hF2 hP2 hE2 hI2
      go_region
      rw [← hW2]
      clear hW2
      go_wp2
      go_roundw
      case rel => exact ⟨k + 1, _, by omega, by go_num, (unhide HN).1, (unhide HN).2.1, (unhide HN).2.2.1, (unhide HN).2.2.2⟩
      case measure => simp [intOf]; omega
    have hkn' : k = d.n := by omega
    subst hkn'
    have hP' : Ptrs wr (w.heap.size + 1 + 1) d.n 89 (fun i => some ⟨E i, 0, none⟩) := hP.congr (fun i hi => (if_pos hi).symm)
    have hz1 := hF.size
    have HBv : Hid (Below w.heap.size w wr) := hide ((unhide HBu1).trans (hF.below (by omega) (by omega)))
    have ca1 := (hF.cell (o := 1) (q := w.heap.size) (by omega) (by omega)).trans a1
    have ca2 := (hF.cell (o := 2) (q := w.heap.size) (by omega) (by omega)).trans a2
    have ca3 := (hF.cell (o := 3) (q := w.heap.size) (by omega) (by omega)).trans a3
    have cb0 := (hF.cell (o := 0) (q := w.heap.size + 1) (by omega) (by omega)).trans b0
    have cb1 := (hF.cell (o := 1) (q := w.heap.size + 1) (by omega) (by omega)).trans b1
    have cb2 := (hF.cell (o := 2) (q := w.heap.size + 1) (by omega) (by omega)).trans b2
    have cb3 := (hF.cell (o := 3) (q := w.heap.size + 1) (by omega) (by omega)).trans b3
    have cb4 := (hF.cell (o := 4) (q := w.heap.size + 1) (by omega) (by omega)).trans b4
    have cb5 := (hF.cell (o := 5) (q := w.heap.size + 1) (by omega) (by omega)).trans b5
    have cb6 := (hF.cell (o := 6) (q := w.heap.size + 1) (by omega) (by omega)).trans b6
    have cf : ∀ o, wr.frozen? ⟨w.heap.size + 1, o, none⟩ = false := fun o => (hF.frozen (o := o) (q := w.heap.size + 1) (by omega) (by omega)).trans (f1 o)
    have hzv : w.heap.size + 3 ≤ wr.heap.size := by omega
    obtain ⟨v1, hv1⟩ : ∃ v, v = wr := ⟨_, rfl⟩
    rw [← hv1] at HBv ca1 ca2 ca3 cb0 cb1 cb2 cb3 cb4 cb5 cb6 cf hzv hP' hE ⊢
    have HI := hide hinj
    have mk2 := make_ptrs Tryz.underlying110 infoEnt d.m hm
    have hy0 : w.heap.size < v1.heap.size := by omega
    have hy1 : w.heap.size + 1 < v1.heap.size := by omega
    have hy2 : w.heap.size + 1 ≠ v1.heap.size := by omega
    have HK0 : Hid (Bk w v1 xa xc d E (.slice none 0 0) .nilFunc (.slice none 0 0) (.int .i64 0)) := hide ⟨unhide HBv, hzv, ca2, ca3, cb0, cb1, cb2, cb3, cb4, cb5, cb6, cf, hP', hE⟩
    clear hv1 hP hP' hE hinj hF hz1 hk hkn a1 a2 a3 b0 b1 b2 b3 b4 b5 b6 f1 HBu1 zu1 HBv
    go_wp2_with fail
    clear mk2
    obtain ⟨u2, hu2⟩ : ∃ u2, u2 = ((v1.setCell ⟨w.heap.size + 1, 1, none⟩ (.slice (some ⟨v1.heap.size, 0, none⟩) d.m d.m)).alloc (.cells (madeCells #[.pointer none] d.m) 89)) := ⟨_, rfl⟩
    rw [← hu2]
    have HK : Hid (Bk w u2 xa xc d E (.slice (some ⟨v1.heap.size, 0, none⟩) d.m d.m) .nilFunc (.slice none 0 0) (.int .i64 0)) := hide (by rw [hu2]; exact ((unhide HK0).set1 _).alloc _)
    have HQ : Hid (Ptrs u2 v1.heap.size d.m 89 (fun _ => none)) := hide (by rw [hu2]; have := Ptrs.fresh (v1.setCell ⟨w.heap.size + 1, 1, none⟩ (.slice (some ⟨v1.heap.size, 0, none⟩) d.m d.m)) d.m 89; simpa using this)
    have hER : ∀ i, i < d.n → E i < v1.heap.size := fun i hi => ((unhide HK0).ent i hi).1.lt
    have HER := hide hER
    obtain ⟨R1, hR1⟩ : ∃ R1, R1 = v1.heap.size := ⟨_, rfl⟩
    have hzu : u2.heap.size = R1 + 1 := by rw [hu2, hR1]; simp
    rw [← hR1] at HK HQ HER hzv ⊢
    clear hu2 hER HK0 cf ca1 ca2 ca3 cb0 cb1 cb2 cb3 cb4 cb5 cb6 hy0 hy1 hy2 hR1
    go_loopw [52] (fun i wr => ∃ k : Nat, k ≤ d.m ∧ i = .int .i64 k ∧ Fil R1 u2 wr ∧ Ptrs wr R1 d.m 89 (fun i => if i < k then entP E (d.I i) else none)) (fun i _ => d.m - (intOf i).toNat)
    case atStart => exact ⟨0, by omega, rfl, Fil.refl _ _, (unhide HQ).congr (fun i hi => if_neg (by omega))⟩
    case round =>
      clear HQ
      obtain ⟨k, hk, rfl, hF, hP⟩ := hrel
      have hK : Bk w wr xa xc d E (.slice (some ⟨R1, 0, none⟩) d.m d.m) .nilFunc (.slice none 0 0) (.int .i64 0) := (unhide HK).fil hF hzv (fun i hi => Nat.ne_of_lt (unhide HER i hi))
      by_cases hkn : k < d.m
      · obtain ⟨b, off, rfl, hbl, hcs⟩ := (unhide HD).ints.resolve_left (by omega)
        have e0 := (hK.below.cell (p := ⟨b, off + k, none⟩) hbl).trans (hcs k hkn)
        have HF := hide hF
        have HP := hide hP
        have hzw := hF.size
        rcases (unhide H3).1 k hkn with hz | hz
        · have HN : Hid (Ptrs wr R1 d.m 89 (fun i => if i < k + 1 then entP E (d.I i) else none)) := hide (hP.congr (fun i hi => by
            by_cases e : i = k
            · subst e; simp [entP, hz]
            · by_cases e2 : i < k
              · rw [if_pos (by omega), if_pos e2]
              · rw [if_neg (by omega), if_neg e2]))
          rw [hz] at e0
          clear hcs hF hP hK hz
          go_wp2
          go_roundw
          case rel => exact ⟨k + 1, by omega, by go_num, unhide HF, unhide HN⟩
          case measure => simp [intOf]; omega
        · obtain ⟨q, hq⟩ : ∃ q : Nat, d.I k = (q : Int) + 1 := ⟨(d.I k - 1).toNat, by omega⟩
          have hqn : q < d.n := by omega
          have c0 := hK.b0
          have c1 := hK.b1
          have p0 := hK.ptr.cell hqn
          have r0 := hP.cell hkn
          have r1 := hP.frozen k
          have hen : entP E (d.I k) = some ⟨E q, 0, none⟩ := by unfold entP; rw [if_pos (by omega), hq]; congr 3; omega
          have HN : Hid (Ptrs (wr.setCell ⟨R1, k, none⟩ (.pointer (some ⟨E q, 0, none⟩))).drew R1 d.m 89 (fun i => if i < k + 1 then entP E (d.I i) else none)) := hide ((hP.set (q := k) (some ⟨E q, 0, none⟩)).congr (fun i hi => by
            by_cases e : i = k
            · subst e; simp [hen]
            · simp only [e, if_false]
              by_cases e2 : i < k
              · rw [if_pos (by omega), if_pos e2]
              · rw [if_neg (by omega), if_neg e2]))
          have hwq : IntKind.i64.wrap (q : Int) = q := by rw [IntKind.wrap_i64]; omega
          have hk0 : w.heap.size + 1 < wr.heap.size := by omega
          have hk1 : w.heap.size + 1 + 1 < wr.heap.size := by omega
          have hk2 : R1 < wr.heap.size := by omega
          rw [hq] at e0
          clear hcs hF hP hK hz hq hen
          go_wp2_with fail
          go_region
          go_wp2
          go_roundw
          case rel => exact ⟨k + 1, by omega, by go_num, ((unhide HF).setCell _ _).drew, unhide HN⟩
          case measure => simp [intOf]; omega
      have hkn' : k = d.m := by omega
      subst hkn'
      have HQ : Hid (Ptrs wr R1 d.m 89 (fun i => entP E (d.I i))) := hide (hP.congr (fun i hi => (if_pos hi).symm))
      have hzw := hF.size
      have ca2 := hK.a2
      have ca3 := hK.a3
      have cb2 := hK.b2
      have cb3 := hK.b3
      have cb4 := hK.b4
      have cf := hK.fz
      have HK2 := hide hK
      obtain ⟨v2, hv2⟩ : ∃ v, v = wr := ⟨_, rfl⟩
      rw [← hv2] at HQ ca2 ca3 cb2 cb3 cb4 cf HK2 hzw ⊢
      have mk3 := make_ptrs Tryz.underlying112 infoSlot d.x hx
      have hy0 : w.heap.size < v2.heap.size := by omega
      have hy1 : w.heap.size + 1 < v2.heap.size := by omega
      have hRl : R1 < v2.heap.size := by omega
      clear hP hF hK hk hkn hv2 HK
      go_wp2_with fail
      clear mk3
      obtain ⟨u3, hu3⟩ : ∃ u3, u3 = (((((v2.setCell ⟨w.heap.size + 1, 2, none⟩ hashF).setCell ⟨w.heap.size + 1, 3, none⟩ (.slice none 0 0)).setCell ⟨w.heap.size + 1, 4, none⟩ (.int .i64 d.used)).setCell ⟨w.heap.size + 1, 3, none⟩ (.slice (some ⟨v2.heap.size, 0, none⟩) d.x d.x)).alloc (.cells (madeCells #[.pointer none] d.x) 117)) := ⟨_, rfl⟩
      rw [← hu3]
      have HK : Hid (Bk w u3 xa xc d E (.slice (some ⟨R1, 0, none⟩) d.m d.m) hashF (.slice (some ⟨v2.heap.size, 0, none⟩) d.x d.x) (.int .i64 d.used)) := hide (by rw [hu3]; exact (((((unhide HK2).set2 _).set3 _).set4 _).set3 _).alloc _)
      have HS0 : Hid (Ptrs u3 v2.heap.size d.x 117 (fun _ => none)) := hide (by rw [hu3]; have := Ptrs.fresh ((((v2.setCell ⟨w.heap.size + 1, 2, none⟩ hashF).setCell ⟨w.heap.size + 1, 3, none⟩ (.slice none 0 0)).setCell ⟨w.heap.size + 1, 4, none⟩ (.int .i64 d.used)).setCell ⟨w.heap.size + 1, 3, none⟩ (.slice (some ⟨v2.heap.size, 0, none⟩) d.x d.x)) d.x 117; simpa using this)
      have HQ3 : Hid (Ptrs u3 R1 d.m 89 (fun i => entP E (d.I i))) := hide ((unhide HQ).keep (by
        rw [hu3]
        refine (Deep.blk_alloc_lt _ _ _ (by simpa using hRl)).trans ?_
        exact (Deep.blk_setCell_other _ _ _ _ (by show R1 ≠ w.heap.size + 1; omega)).trans ((Deep.blk_setCell_other _ _ _ _ (by show R1 ≠ w.heap.size + 1; omega)).trans ((Deep.blk_setCell_other _ _ _ _ (by show R1 ≠ w.heap.size + 1; omega)).trans (Deep.blk_setCell_other _ _ _ _ (by show R1 ≠ w.heap.size + 1; omega))))))
      have HER2 : Hid (∀ i, i < d.n → E i < v2.heap.size) := hide (fun i hi => ((unhide HK2).ent i hi).1.lt)
      obtain ⟨R2, hR2⟩ : ∃ R2, R2 = v2.heap.size := ⟨_, rfl⟩
      have hzu3 : u3.heap.size = R2 + 1 := by rw [hu3, hR2]; simp
      rw [← hR2] at HK HS0 HER2 hRl hzw ⊢
      clear hu3 HK2 HQ HER cf ca2 ca3 cb2 cb3 cb4 hy0 hy1 hR2
      have hR12 : R1 ≠ R2 := by omega
      have hN3 : w.heap.size + 3 ≤ R2 := by omega
      go_loopw [91] (fun i wr => ∃ (k : Nat) (S : Nat → Nat), k ≤ d.x ∧ i = .int .i64 k ∧ Fil R2 u3 wr ∧ Ptrs wr R2 d.x 117 (fun j => if j < k then sltP S j (d.X j) else none) ∧ ∀ j, j < k → SlotIs wr E S d j ∧ (d.X j ≠ 0 → R2 < S j)) (fun i _ => d.x - (intOf i).toNat)
      case atStart => exact ⟨0, fun _ => 0, by omega, rfl, Fil.refl _ _, (unhide HS0).congr (fun i hi => if_neg (by omega)), fun j hj => by omega⟩
      case round =>
        clear HS0
        obtain ⟨k, S, hk, rfl, hF, hP, hSl⟩ := hrel
        have hK : Bk w wr xa xc d E (.slice (some ⟨R1, 0, none⟩) d.m d.m) hashF (.slice (some ⟨R2, 0, none⟩) d.x d.x) (.int .i64 d.used) := (unhide HK).fil hF hN3 (fun i hi => Nat.ne_of_lt (unhide HER2 i hi))
        have hzw := hF.size
        by_cases hkn : k < d.x
        · obtain ⟨b, off, rfl, hbl, hcs⟩ := (unhide HD).index.resolve_left (by omega)
          have e0 := (hK.below.cell (p := ⟨b, off + k, none⟩) hbl).trans (hcs k hkn)
          have HF := hide hF
          have HP := hide hP
          have HSL := hide hSl
          have hk0 : w.heap.size + 1 < wr.heap.size := by omega
          have hk1 : w.heap.size + 1 + 1 < wr.heap.size := by omega
          have hk2 : R2 < wr.heap.size := by omega
          have c0 := hK.b0
          have c3 := hK.b3
          have r0 := hP.cell hkn
          have r1 := hP.frozen k
          by_cases p0 : d.X k = 0
          · have HN : Hid (Ptrs wr R2 d.x 117 (fun j => if j < k + 1 then sltP S j (d.X j) else none)) := hide (hP.congr (fun j hj => by
              by_cases e : j = k
              · subst e; simp [sltP, p0]
              · by_cases e2 : j < k
                · rw [if_pos (by omega), if_pos e2]
                · rw [if_neg (by omega), if_neg e2]))
            have HN2 : Hid (∀ j, j < k + 1 → SlotIs wr E S d j ∧ (d.X j ≠ 0 → R2 < S j)) := hide (fun j hj => by
              by_cases e : j = k
              · subst e; exact ⟨⟨fun h => by omega, fun h => by omega⟩, fun h => absurd p0 h⟩
              · exact hSl j (by omega))
            rw [p0] at e0
            clear hcs hF hP hK hSl p0
            go_wp2
            go_roundw
            case rel => exact ⟨k + 1, S, by omega, by go_num, unhide HF, unhide HN, unhide HN2⟩
            case measure => simp [intOf]; omega
          have hPn : ∀ (W' : World) (sb : Nat), W'.heap[R2]? = (wr.setCell ⟨R2, k, none⟩ (.pointer (some ⟨sb, 0, none⟩))).heap[R2]? → Ptrs W' R2 d.x 117 (fun j => if j < k + 1 then sltP (fun i => if i = k then sb else S i) j (d.X j) else none) := by
            intro W' sb hblk
            refine ((hP.set (q := k) (some ⟨sb, 0, none⟩)).keep hblk).congr (fun j hj => ?_)
            by_cases e : j = k
            · subst e; simp [sltP, p0]
            · simp only [e, if_false, sltP]
              by_cases e2 : j < k
              · rw [if_pos (by omega), if_pos e2]
              · rw [if_neg (by omega), if_neg e2]
          have HPN := hide hPn
          rcases (unhide H4).2.1 k hkn with hs | hs | hs
          · exact absurd hs p0
          · obtain ⟨W2, hW2⟩ : ∃ W2, W2 = (wr.setCell ⟨R2, k, none⟩ (.pointer (some ⟨wr.heap.size, 0, none⟩))).alloc (.cells #[.int .i64 0, .int .i64 0, .float .f64 0, .string ⟨#[]⟩, .int .i64 0, .pointer none, .bool true] 119) := ⟨_, rfl⟩
            have hF2 : Fil R2 wr W2 := by rw [hW2]; exact ((Fil.refl _ _).setCell _ _).alloc _
            have HN : Hid (Fil R2 u3 W2 ∧ Ptrs W2 R2 d.x 117 (fun j => if j < k + 1 then sltP (fun i => if i = k then wr.heap.size else S i) j (d.X j) else none) ∧ ∀ j, j < k + 1 → SlotIs W2 E (fun i => if i = k then wr.heap.size else S i) d j ∧ (d.X j ≠ 0 → R2 < (fun i => if i = k then wr.heap.size else S i) j)) := hide ⟨hF.trans hF2, hPn W2 _ (by rw [hW2]; exact Deep.blk_alloc_lt _ _ _ (by simpa using hk2)), fun j hj => by
              by_cases e : j = k
              · subst e
                simp only [if_true]
                refine ⟨⟨fun h => by omega, fun _ => ?_⟩, fun _ => hk2⟩
                simp only [if_true]
                rw [hW2]
                exact ⟨by simp, by simp [go_sem], by have hg := Deep.blk_alloc_new (wr.setCell ⟨R2, j, none⟩ (.pointer (some ⟨wr.heap.size, 0, none⟩))) (.cells goneA 119); simpa using hg⟩
              · obtain ⟨⟨h1, h2⟩, h3⟩ := hSl j (by omega)
                refine ⟨⟨fun h => ?_, fun h => ?_⟩, fun h => ?_⟩
                · simp only [e, if_false]
                  have := h3 (by omega)
                  exact (h1 h).keep hF2.size (hF2.block _ (h1 h).lt (by omega))
                · simp only [e, if_false]
                  have := h3 (by omega)
                  exact (h2 h).keep hF2.size (hF2.block _ (h2 h).lt (by omega))
                · simp only [e, if_false]; exact h3 h⟩
            rw [hs] at e0
            clear hcs hF hP hK hSl p0 hs hPn hF2
            go_wp2_with fail
            rw [← hW2]
            clear hW2
            go_roundw
            case rel => exact ⟨k + 1, _, by omega, by go_num, (unhide HN).1, (unhide HN).2.1, (unhide HN).2.2⟩
            case measure => simp [intOf]; omega
          · obtain ⟨q, hq⟩ : ∃ q : Nat, d.X k = (q : Int) + 1 := ⟨(d.X k - 1).toNat, by omega⟩
            have hqn : q < d.n := by omega
            have p1 := hK.ptr.cell hqn
            obtain ⟨hlt, g0, g1, g2, g3, g4, _, _, _, _, _, _, _⟩ := (hK.ent q hqn).1
            have hq1 : (d.X k - 1).toNat = q := by omega
            obtain ⟨W2, hW2⟩ : ∃ W2, W2 = ((wr.setCell ⟨R2, k, none⟩ (.pointer (some ⟨wr.heap.size, 0, none⟩))).alloc (.cells #[.int .i64 (d.L q).key.kind, .int .i64 (d.L q).key.num, .float .f64 (d.L q).key.flt, .string (d.L q).key.str, .int .i64 (d.L q).key.ref, .pointer (some ⟨E q, 0, none⟩), .bool false] 119)).drew := ⟨_, rfl⟩
            have hF2 : Fil R2 wr W2 := by rw [hW2]; exact (((Fil.refl _ _).setCell _ _).alloc _).drew
            have HN : Hid (Fil R2 u3 W2 ∧ Ptrs W2 R2 d.x 117 (fun j => if j < k + 1 then sltP (fun i => if i = k then wr.heap.size else S i) j (d.X j) else none) ∧ ∀ j, j < k + 1 → SlotIs W2 E (fun i => if i = k then wr.heap.size else S i) d j ∧ (d.X j ≠ 0 → R2 < (fun i => if i = k then wr.heap.size else S i) j)) := hide ⟨hF.trans hF2, hPn W2 _ (by rw [hW2]; exact Deep.blk_alloc_lt _ _ _ (by simpa using hk2)), fun j hj => by
              by_cases e : j = k
              · subst e
                refine ⟨⟨fun _ => ?_, fun h => by omega⟩, fun _ => by simpa using hk2⟩
                simp only [if_true]
                rw [hW2]
                have hn := slot_new (wr.setCell ⟨R2, j, none⟩ (.pointer (some ⟨wr.heap.size, 0, none⟩))) (d.L q).key (E q)
                have hn' : SCell ((wr.setCell ⟨R2, j, none⟩ (.pointer (some ⟨wr.heap.size, 0, none⟩))).alloc (.cells #[.int .i64 (d.L q).key.kind, .int .i64 (d.L q).key.num, .float .f64 (d.L q).key.flt, .string (d.L q).key.str, .int .i64 (d.L q).key.ref, .pointer (some ⟨E q, 0, none⟩), .bool false] 119)) wr.heap.size (d.L q).key (E q) := by simpa using hn
                show SCell _ _ (d.L (d.X j - 1).toNat).key (E (d.X j - 1).toNat)
                rw [hq1]
                exact hn'.keep (Nat.le_refl _) rfl
              · obtain ⟨⟨h1, h2⟩, h3⟩ := hSl j (by omega)
                refine ⟨⟨fun h => ?_, fun h => ?_⟩, fun h => ?_⟩
                · simp only [e, if_false]
                  have := h3 (by omega)
                  exact (h1 h).keep hF2.size (hF2.block _ (h1 h).lt (by omega))
                · simp only [e, if_false]
                  have := h3 (by omega)
                  exact (h2 h).keep hF2.size (hF2.block _ (h2 h).lt (by omega))
                · simp only [e, if_false]; exact h3 h⟩
            have hwq : IntKind.i64.wrap (q : Int) = q := by rw [IntKind.wrap_i64]; omega
            rw [hq] at e0
            clear hcs hF hP hK hSl p0 hs hPn hF2 hq hq1
            go_wp2_with fail
            go_region
            rw [← hW2]
            clear hW2
            go_wp2
            go_roundw
            case rel => exact ⟨k + 1, _, by omega, by go_num, (unhide HN).1, (unhide HN).2.1, (unhide HN).2.2⟩
            case measure => simp [intOf]; omega
        have hkn' : k = d.x := by omega
        subst hkn'
        have hP' : Ptrs wr R2 d.x 117 (fun j => sltP S j (d.X j)) := hP.congr (fun i hi => (if_pos hi).symm)
        have hQ : Ptrs wr R1 d.m 89 (fun i => entP E (d.I i)) := (unhide HQ3).keep (hF.block _ (by omega) hR12)
        have HALL : Hid ((Book wr (w.heap.size + 1) (w.heap.size + 1 + 1) R1 R2 E S d ∧ Strong wr w.heap.size (w.heap.size + 1) (w.heap.size + 1 + 1) R1 R2 E S d) ∧ Below w.heap.size w wr) := hide ⟨⟨⟨by omega, ⟨_, _, hK.b0, fun _ => rfl⟩, ⟨_, hK.b1⟩, hK.b2, hK.b3, hK.b4, hK.b5, hK.b6, fun i hi => hK.ptr.cell hi, fun i hi => (hK.ent i hi).1, unhide HI, fun i hi => hQ.cell hi, fun i hi => hP'.cell hi, fun j hj => (hSl j hj).1, by omega, by omega, by omega⟩, ⟨hK.b0, hK.b1, hK.fz, hK.ptr, hQ, hP', by omega, by omega, by omega, by omega, by omega, fun i hi => by have := (hK.ent i hi).2; omega, fun j hj h0 => (hSl j hj).2 h0⟩⟩, hK.below⟩
        clear hP hP' hF hK hSl hk hkn hQ
        go_wp2
        go_ret
        exact ⟨⟨_, _, _, _, _, _, rfl, (unhide HALL).1⟩, (unhide HALL).2⟩
theorem openBook_any (la : Option Addr) (lc : Nat) (ia : Option Addr) (ic : Nat) (xa : Option Addr) (xc : Nat) (d : Dc) (w : World) (hD : DAt w la ia xa d) (hS : Small d) (h3 : D3 d) (h4 : D4 d) :
    Calls Tryz.prog 52 #[Dv la lc ia ic xa xc d] w fun e w' => (∃ bk R0 R1 R2 E S, e = .returned (.pointer (some ⟨bk, 0, none⟩)) ∧ Book w' bk R0 R1 R2 E S d) ∧ Below w.heap.size w w' :=
  (openBook_own la lc ia ic xa xc d w hD hS h3 h4).mono fun e w' h => by
    obtain ⟨⟨bk, R0, R1, R2, E, S, h1, h2, _⟩, h3⟩ := h
    exact ⟨⟨bk, R0, R1, R2, E, S, h1, h2⟩, h3⟩
end Go.Proofs.YtglcaejddckleaaGreatDoor

namespace Go.Proofs.YtglcaejddckleaaGreatDoor
open Go.RowKit
set_option linter.unusedVariables false
attribute [local go_sem] run_store_float run_equalIn_float

theorem idx0 (a b : Option Addr) (n m c c' : Nat) (w : World) : (Instr.index 146 (.agg #[.slice a n c, .slice b m c']) (.int .i64 0)).run Tryz.prog w = .ok (.slice a n c) w := by kernel_rfl
theorem idx1 (a b : Option Addr) (n m c c' : Nat) (w : World) : (Instr.index 146 (.agg #[.slice a n c, .slice b m c']) (.int .i64 1)).run Tryz.prog w = .ok (.slice b m c') w := by kernel_rfl

set_option maxRecDepth 100000 in
set_option maxHeartbeats 2000000 in
theorem timesNamed_any (la : Option Addr) (lc : Nat) (ia : Option Addr) (ic : Nat) (xa : Option Addr) (xc : Nat) (d : Dc) (w : World) (hD : DAt w la ia xa d) (hS : Small d) (h3 : D3 d) (h4 : D4 d) :
    Calls Tryz.prog 102 #[Dv la lc ia ic xa xc d] w fun e w' => (∃ s, e = .returned (.slice (some ⟨s, 0, none⟩) d.n d.n) ∧ Counts w' s d.n (fun j => cnt d.I j d.m + cnt d.X j d.x)) ∧ Below w.heap.size w w' := by
  have hn := hS.n
  have hm := hS.m
  have hx := hS.x
  have hmk := make_ints d.n hn
  have hi0 := idx0 ia xa d.m d.x ic xc
  have hi1 := idx1 ia xa d.m d.x ic xc
  have HD := hide hD
  have H3 := hide h3
  have H4 := hide h4
  clear hD hS h3 h4
  go_enter Tryz.func102, Tryz.ntmps102
  go_wp2
  obtain ⟨u, hu⟩ : ∃ u, u = ((w.alloc (.cells #[.slice la d.n lc, .slice ia d.m ic, .slice xa d.x xc, .int .i64 d.used, .int .i64 d.live, .int .i64 d.turns] 84)).alloc (.cells (madeCells #[.int .i64 0] d.n) 3)) := ⟨_, rfl⟩
  rw [← hu]
  have HBu : Hid (Below w.heap.size w u) := hide (by rw [hu]; exact ((Below.refl _ _).alloc (Nat.le_refl _) _).alloc (by simp) _)
  have HC0 : Hid (Counts u (w.heap.size + 1) d.n (fun j => 0)) := hide (by
    rw [hu]
    have := made_zeros (w.alloc (.cells #[.slice la d.n lc, .slice ia d.m ic, .slice xa d.x xc, .int .i64 d.used, .int .i64 d.live, .int .i64 d.turns] 84)) d.n
    exact ⟨_, by simpa [Value.cells] using this, fun j hj => rfl⟩)
  clear hu hmk
  go_loopw [20] (fun i wr => (i = .int .i64 0 ∧ Counts wr (w.heap.size + 1) d.n (fun j => 0) ∧ Below w.heap.size w wr) ∨ (i = .int .i64 1 ∧ Counts wr (w.heap.size + 1) d.n (fun j => cnt d.I j d.m) ∧ Below w.heap.size w wr) ∨ (i = .int .i64 2 ∧ Counts wr (w.heap.size + 1) d.n (fun j => cnt d.I j d.m + cnt d.X j d.x) ∧ Below w.heap.size w wr)) (fun i _ => 2 - (intOf i).toNat)
  case atStart => exact .inl ⟨rfl, unhide HC0, unhide HBu⟩
  case round =>
    clear HC0 HBu
    rcases hrel with ⟨rfl, hct, hb⟩ | ⟨rfl, hct, hb⟩ | ⟨rfl, hct, hb⟩
    · have HC := hide hct
      have HB := hide hb
      clear hct hb
      go_wp2
      go_loopw [25] (fun i wr => ∃ k : Nat, k ≤ d.m ∧ i = .int .i64 k ∧ Counts wr (w.heap.size + 1) d.n (fun j => cnt d.I j k) ∧ Below w.heap.size w wr) (fun i _ => d.m - (intOf i).toNat)
      case atStart => exact ⟨0, by omega, rfl, unhide HC, unhide HB⟩
      case round =>
        clear HC HB
        obtain ⟨k, hk, rfl, hct, hb⟩ := hrel
        by_cases hkn : k < d.m
        · obtain ⟨b, off, rfl, hbl, hcs⟩ := (unhide HD).ints.resolve_left (by omega)
          have e0 := (hb.cell (p := ⟨b, off + k, none⟩) hbl).trans (hcs k hkn)
          have hsl := hct.lt
          have HB := hide hb
          rcases (unhide H3).1 k hkn with hz | hz
          · have HC : Hid (Counts wr (w.heap.size + 1) d.n (fun j => cnt d.I j (k + 1))) := hide (hct.congr (fun j hj => by show (if _ then _ else _) = _; rw [if_neg (by omega)]))
            rw [hz] at e0
            clear hcs hb hct hz
            go_wp2
            go_roundw
            case rel => exact ⟨k + 1, by omega, by go_num, unhide HC, unhide HB⟩
            case measure => simp [intOf]; omega
          · obtain ⟨q, hq⟩ : ∃ q : Nat, d.I k = (q : Int) + 1 := ⟨(d.I k - 1).toNat, by omega⟩
            have hqn : q < d.n := by omega
            have r0 := hct.cell hqn
            have r1 := hct.frozen q
            have hcl := cnt_le d.I q k
            have HC : Hid (Counts (wr.setCell ⟨w.heap.size + 1, q, none⟩ (.int .i64 ((cnt d.I q k : Int) + 1))) (w.heap.size + 1) d.n (fun j => cnt d.I j (k + 1))) := hide (hct.bump.congr (fun j hj => by
              show (if d.I k = (j : Int) + 1 then _ else _) = (if j = q then _ else _)
              by_cases e : j = q
              · subst e; rw [if_pos hq, if_pos rfl]
              · rw [if_neg (by omega), if_neg e]))
            rw [hq] at e0
            clear hcs hb hct hz hq
            go_wp2
            go_roundw
            case rel => exact ⟨k + 1, by omega, by go_num, unhide HC, (unhide HB).setCell (by show w.heap.size ≤ w.heap.size + 1; omega) _⟩
            case measure => simp [intOf]; omega
        have hkn' : k = d.m := by omega
        subst hkn'
        have HC := hide hct
        have HB := hide hb
        clear hct hb hk hkn
        go_wp2
        go_roundw
        case rel => exact .inr (.inl ⟨rfl, unhide HC, unhide HB⟩)
        case measure => simp [intOf]
    · have HC := hide hct
      have HB := hide hb
      clear hct hb
      go_wp2
      go_loopw [25] (fun i wr => ∃ k : Nat, k ≤ d.x ∧ i = .int .i64 k ∧ Counts wr (w.heap.size + 1) d.n (fun j => cnt d.I j d.m + cnt d.X j k) ∧ Below w.heap.size w wr) (fun i _ => d.x - (intOf i).toNat)
      case atStart => exact ⟨0, by omega, rfl, unhide HC, unhide HB⟩
      case round =>
        clear HC HB
        obtain ⟨k, hk, rfl, hct, hb⟩ := hrel
        by_cases hkn : k < d.x
        · obtain ⟨b, off, rfl, hbl, hcs⟩ := (unhide HD).index.resolve_left (by omega)
          have e0 := (hb.cell (p := ⟨b, off + k, none⟩) hbl).trans (hcs k hkn)
          have hsl := hct.lt
          have HB := hide hb
          by_cases hz : 0 < d.X k
          case neg =>
            have HC : Hid (Counts wr (w.heap.size + 1) d.n (fun j => cnt d.I j d.m + cnt d.X j (k + 1))) := hide (hct.congr (fun j hj => by show _ + (if _ then _ else _) = _; rw [if_neg (by omega)]))
            have hz' : decide (0 < d.X k) = false := by simp; omega
            clear hcs hb hct
            go_wp2
            go_roundw
            case rel => exact ⟨k + 1, by omega, by go_num, unhide HC, unhide HB⟩
            case measure => simp [intOf]; omega
          · obtain ⟨q, hq⟩ : ∃ q : Nat, d.X k = (q : Int) + 1 := ⟨(d.X k - 1).toNat, by omega⟩
            have hqn : q < d.n := by rcases (unhide H4).2.1 k hkn with hh | hh | hh <;> omega
            have r0 := hct.cell hqn
            have r1 := hct.frozen q
            have hcl := cnt_le d.I q d.m
            have hcl2 := cnt_le d.X q k
            have HC : Hid (Counts (wr.setCell ⟨w.heap.size + 1, q, none⟩ (.int .i64 (((cnt d.I q d.m + cnt d.X q k : Nat) : Int) + 1))) (w.heap.size + 1) d.n (fun j => cnt d.I j d.m + cnt d.X j (k + 1))) := hide (hct.bump.congr (fun j hj => by
              show _ + (if d.X k = (j : Int) + 1 then _ else _) = (if j = q then _ else _)
              by_cases e : j = q
              · subst e; rw [if_pos hq, if_pos rfl]; omega
              · rw [if_neg (by omega), if_neg e]))
            generalize hcc : cnt d.I q d.m + cnt d.X q k = cc at r0 HC
            have hcb : cc ≤ 8388608 := by omega
            rw [hq] at e0
            clear hcs hb hct hz hq hcc hcl hcl2
            go_wp2
            go_roundw
            case rel => exact ⟨k + 1, by omega, by go_num, unhide HC, (unhide HB).setCell (by show w.heap.size ≤ w.heap.size + 1; omega) _⟩
            case measure => simp [intOf]; omega
        have hkn' : k = d.x := by omega
        subst hkn'
        have HC := hide hct
        have HB := hide hb
        clear hct hb hk hkn
        go_wp2
        go_roundw
        case rel => exact .inr (.inr ⟨rfl, unhide HC, unhide HB⟩)
        case measure => simp [intOf]
    · have HC := hide hct
      have HB := hide hb
      clear hct hb
      go_wp2
      go_ret
      exact ⟨⟨_, rfl, unhide HC⟩, unhide HB⟩

set_option maxHeartbeats 1000000 in
theorem nextInt_any (bk R0 R1 R2 : Nat) (E S : Nat → Nat) (d : Dc) (w : World) (hB : Book w bk R0 R1 R2 E S d) (hS : Small d) :
    Calls Tryz.prog 103 #[.pointer (some ⟨bk, 0, none⟩)] w fun e w' => e = .returned (V 2 ((d.m : Int) + 1) 0 ⟨#[]⟩ 0) ∧ Below w.heap.size w w' := by
  have hm := hS.m
  obtain ⟨k1, c1⟩ := hB.c1
  have hlt := hB.lt
  clear hB hS
  go_enter Tryz.func103, Tryz.ntmps103
  go_wp2_with (go_at_call 51; refine (intValue_any ((d.m : Int) + 1) _).mono ?_; rintro e w1 ⟨rfl, hb1⟩; obtain ⟨hc1, hf1⟩ := bcell hb1; have hz1 := hb1.size; simp at hz1)
  refine bodyPost_ret (v := V 2 ((d.m : Int) + 1) 0 ⟨#[]⟩ 0) (by simp [results, Tryz.results103, go_sem, hc1]) rfl ⟨rfl, ?_⟩
  have hb2 : Below w.heap.size w w1 := ((Below.refl _ _).alloc (Nat.le_refl _) _).trans (hb1.mono (by simp))
  exact (((((hb2.setCell (p := ⟨w.heap.size, 0, none⟩) (Nat.le_refl _) _).setCell (p := ⟨w.heap.size, 1, none⟩) (Nat.le_refl _) _).setCell (p := ⟨w.heap.size, 2, none⟩) (Nat.le_refl _) _).setCell (p := ⟨w.heap.size, 3, none⟩) (Nat.le_refl _) _).setCell (p := ⟨w.heap.size, 4, none⟩) (Nat.le_refl _) _)
end Go.Proofs.YtglcaejddckleaaGreatDoor
