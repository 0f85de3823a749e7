/-
  Dicts: the model's rule 4.
-/
import Derived.Test.YtglcaejddckleaaGreatDoorDcE
namespace Go.Proofs.YtglcaejddckleaaGreatDoor
open Go.RowKit
set_option linter.unusedVariables false
attribute [local go_sem] run_store_float run_equalIn_float

/-- What rule 2 says of each entry of the log. -/
def Entry (d : Dc) (i : Nat) : Prop := ((d.L i).turn = 0 ∧ noneB (d.L i).key = true ∧ noneB (d.L i).val = true) ∨ (0 < (d.L i).turn ∧ (d.L i).turn ≤ d.turns ∧ keyB (d.L i).key = true ∧ (d.L i).val.ok = true ∧ (d.L i).val.kind ≠ 0)
theorem logTo_entries {d : Dc} : ∀ (k : Nat) {live last : Int}, logTo d k = some (live, last) → 0 ≤ last ∧ ∀ i, i < k → Entry d i := by
  intro k
  induction k with
  | zero => intro live last h; simp [logTo] at h; exact ⟨by omega, fun i hi => by omega⟩
  | succ k ih =>
    intro live last h
    cases hk : logTo d k with
    | none => rw [logTo_none' hk (by omega)] at h; cases h
    | some x =>
      obtain ⟨l0, t0⟩ := x
      obtain ⟨i1, i2⟩ := ih hk
      by_cases ht : (d.L k).turn = 0
      · rw [logTo_dead hk ht] at h
        split at h
        · next hn =>
          simp only [Option.some.injEq, Prod.mk.injEq] at h
          refine ⟨by omega, fun i hi => ?_⟩
          by_cases e : i = k
          · subst e; left; simpa [ht] using hn
          · exact i2 i (by omega)
        · cases h
      · rw [logTo_live hk ht] at h
        split at h
        · next hn =>
          simp only [Option.some.injEq, Prod.mk.injEq] at h
          unfold pairB at hn
          simp at hn
          refine ⟨by omega, fun i hi => ?_⟩
          by_cases e : i = k
          · subst e; right; exact ⟨by omega, hn.1.1.1.2, hn.1.1.2, hn.1.2, hn.2⟩
          · exact i2 i (by omega)
        · cases h
theorem D2.entry {d : Dc} (h : D2 d) {i : Nat} (hi : i < d.n) : Entry d i := by
  obtain ⟨l, e⟩ := h
  exact (logTo_entries d.n e).2 i hi
theorem D2.pos {d : Dc} (h : D2 d) {i : Nat} (hi : i < d.n) (ht : (d.L i).turn ≠ 0) : 0 < (d.L i).turn ∧ keyB (d.L i).key = true := by
  rcases h.entry hi with h | h
  · exact absurd h.1 ht
  · exact ⟨h.1, h.2.2.1⟩

def indexedK (d : Dc) (i : Nat) : Prop := 0 < (d.L i).turn ∧ ¬ smallK d.m (d.L i).key

set_option maxHeartbeats 1000000 in
theorem l1indexed_any (c o : Nat) (la : Option Addr) (lc : Nat) (ia : Option Addr) (ic : Nat) (xa : Option Addr) (xc : Nat) (d : Dc) (q : Nat) (w : World) (hD : DPtr w c o la lc ia ic xa xc d) (hS : Small d) (hq : q < d.n) :
    Calls Tryz.prog 111 #[Pc c o, .int .i64 (q : Int)] w fun e w' => e = .returned (.bool (tells (indexedK d q))) ∧ Below w.heap.size w w' := by
  have hn := hS.n
  have c0 := hD.c0
  have hlt := hD.lt
  obtain ⟨b, off, rfl, hll, hls⟩ := hD.rows.log.resolve_left (by omega)
  obtain ⟨e0, e1, e2, e3, e4, e5, e6, e7, e8, e9, e10⟩ := hls q hq
  have HD := hide hD
  have HS := hide hS
  clear hD hS hls
  by_cases h1 : 0 < (d.L q).turn
  case neg =>
    have HT := hide (tells_no (p := indexedK d q) (fun h => h1 h.1))
    have h1' : decide (0 < (d.L q).turn) = false := by simp; omega
    clear h1
    go_enter Tryz.func111, Tryz.ntmps111
    go_wp2
    go_ret
    exact ⟨by rw [unhide HT]; rfl, (Below.refl _ _).alloc (Nat.le_refl _) _⟩
  have h1' : decide (0 < (d.L q).turn) = true := by simp [h1]
  have HR : Hid (tells (indexedK d q) = !tells (smallK d.m (d.L q).key)) := hide (by
    by_cases hs : smallK d.m (d.L q).key
    · rw [tells_yes hs, tells_no (fun h => h.2 hs)]; rfl
    · rw [tells_no hs, tells_yes ⟨h1, hs⟩]; rfl)
  clear h1
  go_enter Tryz.func111, Tryz.ntmps111
  go_wp2_with fail
  refine (l1small_any c o (some ⟨b, off, none⟩) lc ia ic xa xc d (d.L q).key _ ((unhide HD).below ((Below.refl _ _).alloc (Nat.le_refl _) _)) (unhide HS)).mono ?_
  rintro e w1 ⟨rfl, hb⟩
  have HB := hide hb
  clear hb
  go_wp2
  go_ret
  exact ⟨by rw [unhide HR]; simp, ((Below.refl _ _).alloc (Nat.le_refl _) _).trans ((unhide HB).mono (by simp))⟩

theorem pow2_half {a : Nat} (h : 1 ≤ a) : Pow2 (2 * a) ↔ Pow2 a := by
  constructor
  · rintro ⟨k, hk⟩
    cases k with
    | zero => simp at hk; omega
    | succ k => exact ⟨k, by rw [Nat.pow_succ] at hk; omega⟩
  · rintro ⟨k, hk⟩
    exact ⟨k + 1, by rw [Nat.pow_succ, hk]; omega⟩
theorem pow2_odd {a : Nat} (h : 1 < a) (ho : a % 2 ≠ 0) : ¬ Pow2 a := by
  rintro ⟨k, hk⟩
  cases k with
  | zero => simp at hk; omega
  | succ k => rw [Nat.pow_succ] at hk; omega
theorem pow2_one : Pow2 1 := ⟨0, rfl⟩

theorem usedTo_le (d : Dc) (k : Nat) : usedTo d k ≤ k := by
  induction k with
  | zero => exact Nat.le_refl _
  | succ k ih => unfold usedTo; split <;> omega

def SizeX (x : Nat) : Prop := x = 0 ∨ (8 ≤ x ∧ x ≤ 4000 ∧ Pow2 x)
theorem not_D4 {d : Dc} {k : Nat} (hk : k < d.x) (h : ¬ okSlot d k) : tells (D4 d) = false := tells_no (fun h' => h (h'.2.1 k hk))
theorem not_D4' {d : Dc} (h : ¬ SizeX d.x) : tells (D4 d) = false := tells_no (fun h' => h h'.1)

set_option maxRecDepth 100000 in
set_option maxHeartbeats 2000000 in
theorem l1indexok_any (c o : Nat) (la : Option Addr) (lc : Nat) (ia : Option Addr) (ic : Nat) (xa : Option Addr) (xc : Nat) (d : Dc) (w : World) (hD : DPtr w c o la lc ia ic xa xc d) (hS : Small d) (h2 : D2 d) :
    Calls Tryz.prog 75 #[Pc c o] w fun e w' => e = .returned (.bool (tells (D4 d))) ∧ Below w.heap.size w w' := by
  have hn := hS.n
  have hx := hS.x
  have c2 := hD.c2
  have hlt := hD.lt
  have HD := hide hD
  have HS := hide hS
  have H2 := hide h2
  clear hD hS h2
  by_cases s1 : 0 < d.x ∧ d.x < 8
  · have HT := hide (not_D4' (d := d) (fun h => by rcases h with h | h <;> omega))
    obtain ⟨s1, s2⟩ := s1
    go_enter Tryz.func75, Tryz.ntmps75
    go_wp2
    go_ret
    exact ⟨by rw [unhide HT]; rfl, Below.refl _ _⟩
  by_cases s2 : 4000 < d.x
  · have HT := hide (not_D4' (d := d) (fun h => by rcases h with h | h <;> omega))
    have s3 : ¬ (d.x : Int) < 8 := by omega
    have s4 : (0 : Int) < d.x := by omega
    clear s1
    go_enter Tryz.func75, Tryz.ntmps75
    go_wp2
    go_ret
    exact ⟨by rw [unhide HT]; rfl, Below.refl _ _⟩
  have HS1 := hide s1
  clear s1
  go_enter Tryz.func75, Tryz.ntmps75
  have s3 : d.x = 0 ∨ (0 < d.x ∧ ¬ d.x < 8) := by have := unhide HS1; omega
  rcases s3 with s3 | ⟨s3, s4⟩
  · have HX0 := hide s3
    have s3' : ¬ (0 : Int) < d.x := by omega
    clear s3
    have s5 : ¬ (1 : Int) < d.x := by omega
    go_wp2_with fail
    go_loopw [4] (fun m wr => m = .int .i64 d.x ∧ wr = w) (fun _ _ => 0)
    case atStart => exact ⟨rfl, rfl⟩
    case round =>
      obtain ⟨rfl, rfl⟩ := hrel
      go_wp2_with fail
      go_loopw [5, 36] (fun u i wr' => u = .int .i64 0 ∧ i = .int .i64 0 ∧ wr' = wr) (fun _ _ _ => 0)
      case atStart => exact ⟨rfl, rfl, rfl⟩
      case round =>
        obtain ⟨rfl, rfl, rfl⟩ := hrel
        have c3 := (unhide HD).c3
        have hle : (0 : Int) ≤ d.x := by omega
        by_cases hu : (0 : Int) = d.used
        · have HT := hide (tells_yes (p := D4 d) ⟨.inl (unhide HX0), fun j hj => by have := unhide HX0; omega, by rw [unhide HX0]; exact hu, by rw [unhide HX0]; exact Nat.le_refl _⟩)
          have hu' : ((0 : Int) == d.used) = true := by simp [hu]
          have hu'' : (d.used == 0) = true := by simp [← hu]
          rw [← hu] at c3
          clear hu hu' hu''
          go_wp2
          go_ret
          exact ⟨by rw [unhide HT]; rfl, Below.refl _ _⟩
        · have HT := hide (tells_no (p := D4 d) (fun h => by have := h.2.2.1; rw [unhide HX0] at this; exact hu this))
          have hu' : ((0 : Int) == d.used) = false := by simp [hu]
          clear hu
          go_wp2
          go_ret
          exact ⟨by rw [unhide HT]; rfl, Below.refl _ _⟩
  · have HS4 := hide s4
    have s4' : ¬ (d.x : Int) < 8 := by omega
    have s3' : (0 : Int) < d.x := by omega
    have hxl : d.x ≤ 4000 := by omega
    clear s4 s3
    go_wp2_with fail
    go_loopw [4] (fun m wr => ∃ a : Nat, m = .int .i64 a ∧ 1 ≤ a ∧ a ≤ 4000 ∧ (Pow2 d.x ↔ Pow2 a) ∧ wr = w) (fun m _ => (intOf m).toNat)
    case atStart => exact ⟨d.x, rfl, by omega, by omega, Iff.rfl, rfl⟩
    case round =>
      obtain ⟨a, rfl, ha1, ha2, hiff, hww⟩ := hrel
      rw [hww]
      clear hww
      have HI := hide hiff
      clear hiff
      by_cases ha : 1 < a
      · obtain ⟨q, r, hqr, hr⟩ : ∃ q r, a = 2 * q + r ∧ r < 2 := ⟨a / 2, a % 2, by omega, by omega⟩
        have hm : (a : Int).tmod 2 = r := by rw [Int.tmod_eq_emod_of_nonneg (by omega)]; omega
        have hd : (a : Int).tdiv 2 = q := by rw [Int.tdiv_eq_ediv_of_nonneg (by omega)]; omega
        have hr01 : r = 0 ∨ r = 1 := by omega
        rcases hr01 with rfl | rfl
        · have HI2 : Hid (Pow2 d.x ↔ Pow2 q) := hide ((unhide HI).trans (by rw [show a = 2 * q by omega]; exact pow2_half (by omega)))
          go_wp2
          refine ⟨⟨q, rfl, by omega, by omega, unhide HI2, trivial⟩, ?_⟩
          simp [intOf]; omega
        · have HT := hide (not_D4' (d := d) (fun h => by
            rcases h with h | h
            · omega
            · exact pow2_odd ha (by omega) ((unhide HI).1 h.2.2)))
          go_wp2
          go_ret
          exact ⟨by rw [unhide HT]; rfl, Below.refl _ _⟩
      have ha0 : a = 1 := by omega
      subst ha0
      rw [show ((1 : Nat) : Int) = 1 from rfl]
      have HP : Hid (SizeX d.x) := hide (.inr ⟨by omega, by omega, (unhide HI).2 pow2_one⟩)
      clear HI ha1 ha2 ha HS4
      go_wp2_with fail
      clear c2
      go_loopw [5, 36] (fun u i wr => ∃ k : Nat, k ≤ d.x ∧ i = .int .i64 k ∧ u = .int .i64 (usedTo d k) ∧ (∀ j, j < k → okSlot d j) ∧ Below w.heap.size w wr) (fun _ i _ => d.x - (intOf i).toNat)
      case atStart => exact ⟨0, by omega, rfl, rfl, fun j hj => by omega, Below.refl _ _⟩
      case round =>
        obtain ⟨k, hk, rfl, rfl, hall, hb⟩ := hrel
        have hD := (unhide HD).below hb
        have c0 := hD.c0
        have c3 := hD.c3
        have hcl := hD.lt
        have hul := usedTo_le d k
        have HALL := hide hall
        clear hD hall
        by_cases hkn : k < d.x
        case neg =>
          have hkn' : k = d.x := by omega
          subst hkn'
          have HB := hide hb
          clear hb
          by_cases h1 : (usedTo d d.x : Int) = d.used
          case neg =>
            have HT := hide (tells_no (p := D4 d) (fun h => h1 h.2.2.1))
            have h1' : ((usedTo d d.x : Int) == d.used) = false := by simp [h1]
            clear h1
            go_wp2
            go_ret
            exact ⟨by rw [unhide HT]; rfl, unhide HB⟩
          have h1' : ((usedTo d d.x : Int) == d.used) = true := by simp [h1]
          by_cases h2 : 2 * usedTo d d.x ≤ d.x
          · have HT := hide (tells_yes (p := D4 d) ⟨unhide HP, unhide HALL, h1, h2⟩)
            have h2' : decide (2 * (usedTo d d.x : Int) ≤ d.x) = true := by simp; omega
            clear h1 h2
            go_wp2
            go_ret
            exact ⟨by rw [unhide HT]; simp, unhide HB⟩
          · have HT := hide (tells_no (p := D4 d) (fun h => h2 h.2.2.2))
            have h2' : decide (2 * (usedTo d d.x : Int) ≤ d.x) = false := by simp; omega
            clear h1 h2
            go_wp2
            go_ret
            exact ⟨by rw [unhide HT]; simp, unhide HB⟩
        obtain ⟨b, off, rfl, hbl, hcs⟩ := (unhide HD).rows.index.resolve_left (by omega)
        have e0 := (hb.cell (p := ⟨b, off + k, none⟩) hbl).trans (hcs k hkn)
        have hwz := hb.size
        have HB := hide hb
        clear hcs hb
        by_cases p1 : d.X k < -1
        · have HT := hide (not_D4 hkn (fun h => by rcases h with h | h | h <;> omega))
          go_wp2
          go_ret
          exact ⟨by rw [unhide HT]; rfl, unhide HB⟩
        by_cases p2 : (d.n : Int) < d.X k
        · have HT := hide (not_D4 hkn (fun h => by rcases h with h | h | h <;> omega))
          go_wp2
          go_ret
          exact ⟨by rw [unhide HT]; rfl, unhide HB⟩
        by_cases p3 : d.X k = 0
        · have HO : Hid (okSlot d k) := hide (.inl p3)
          have HU : Hid (usedTo d (k + 1) = usedTo d k) := hide (by show (if d.X k = 0 then _ else _) = _; rw [if_pos p3])
          rw [p3] at e0
          clear p1 p2 p3
          go_wp2
          go_roundw
          case rel => exact ⟨k + 1, by omega, by go_num, by rw [unhide HU], fun j hj => (by by_cases e : j = k; exact e ▸ unhide HO; exact unhide HALL j (by omega)), unhide HB⟩
          case measure => simp [intOf]; omega
        have HU : Hid (usedTo d (k + 1) = usedTo d k + 1) := hide (by show (if d.X k = 0 then _ else _) = _; rw [if_neg p3])
        by_cases p4 : d.X k = -1
        · have HO : Hid (okSlot d k) := hide (.inr (.inl p4))
          rw [p4] at e0
          clear p1 p2 p3 p4
          go_wp2
          go_roundw
          case rel => exact ⟨k + 1, by omega, by go_num, by rw [unhide HU]; go_num, fun j hj => (by by_cases e : j = k; exact e ▸ unhide HO; exact unhide HALL j (by omega)), unhide HB⟩
          case measure => simp [intOf]; omega
        obtain ⟨q, hq⟩ : ∃ q : Nat, d.X k = (q : Int) + 1 := ⟨(d.X k - 1).toNat, by omega⟩
        have hqn : q < d.n := by omega
        have HA : Hid (d.at (d.X k) = d.L q) := hide (by unfold Dc.at; rw [hq]; congr 1; omega)
        rw [hq] at e0
        have g0 : ((q : Int) + 1 != 0) = true := by simp; omega
        have g1 : ¬ (q : Int) + 1 < -1 := by omega
        have g2 : ¬ (d.n : Int) < (q : Int) + 1 := by omega
        have HQ := hide hq
        clear p1 p2 p3 p4 hq
        by_cases hi : indexedK d q
        · have HR := hide (tells_yes hi)
          have HO : Hid (okSlot d k) := hide (.inr (.inr ⟨by rw [unhide HQ]; omega, by rw [unhide HQ]; omega, by rw [unhide HA]; have := hi.1; omega, by rw [unhide HA]; exact hi.2⟩))
          clear hi
          go_wp2_with fail
          refine (l1indexed_any c o la lc ia ic (some ⟨b, off, none⟩) xc d q _ ((unhide HD).below (unhide HB)) (unhide HS) hqn).mono ?_
          rintro e w1 ⟨rfl, hb1⟩
          rw [unhide HR]
          have HB1 := hide ((unhide HB).trans (hb1.mono (unhide HB).size))
          clear hb1
          go_wp2
          go_roundw
          case rel => exact ⟨k + 1, by omega, by go_num, by rw [unhide HU]; go_num, fun j hj => (by by_cases e : j = k; exact e ▸ unhide HO; exact unhide HALL j (by omega)), unhide HB1⟩
          case measure => simp [intOf]; omega
        · have HR := hide (tells_no hi)
          have HT := hide (not_D4 hkn (fun h => by
            rcases h with h | h | h
            · rw [unhide HQ] at h; omega
            · rw [unhide HQ] at h; omega
            · rw [unhide HA] at h
              exact hi ⟨((unhide H2).pos hqn h.2.2.1).1, h.2.2.2⟩))
          clear hi
          go_wp2_with fail
          refine (l1indexed_any c o la lc ia ic (some ⟨b, off, none⟩) xc d q _ ((unhide HD).below (unhide HB)) (unhide HS) hqn).mono ?_
          rintro e w1 ⟨rfl, hb1⟩
          rw [unhide HR]
          have HB1 := hide ((unhide HB).trans (hb1.mono (unhide HB).size))
          clear hb1
          go_wp2
          go_ret
          exact ⟨by rw [unhide HT]; rfl, unhide HB1⟩
end Go.Proofs.YtglcaejddckleaaGreatDoor
