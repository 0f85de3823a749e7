/-
  DcF, DcG, DcH, DcI.
-/
import Derived.Test.YtfceeijdmilieaaGreatBr6
import Derived.Laws.Bits64b
namespace Go.Proofs.YtfceeijdmilieaaGreat
open Go.RowKit
set_option linter.unusedVariables false
attribute [local go_sem] run_store_float run_equalIn_float

/-- What rule 2 says of each entry of the log. -/
def Entry (d : Dc) (i : Nat) : Prop := ((d.L i).turn = 0 ∧ noneB (d.L i).key = true ∧ noneB (d.L i).val = true) ∨ (0 < (d.L i).turn ∧ (d.L i).turn ≤ d.turns ∧ keyB (d.L i).key = true ∧ (d.L i).val.ok = true ∧ (d.L i).val.kind ≠ 0)
theorem logTo_entries {d : Dc} : ∀ (k : Nat) {live last : Int}, logTo d k = some (live, last) → 0 ≤ last ∧ ∀ i, i < k → Entry d i := by
  intro k
  induction k with
  | zero => intro live last h; simp [logTo] at h; exact ⟨by omega, fun i hi => by omega⟩
  | succ k ih =>
    intro live last h
    cases hk : logTo d k with
    | none => rw [logTo_none' hk (by omega)] at h; cases h
    | some x =>
      obtain ⟨l0, t0⟩ := x
      obtain ⟨i1, i2⟩ := ih hk
      by_cases ht : (d.L k).turn = 0
      · rw [logTo_dead hk ht] at h
        split at h
        · next hn =>
          simp only [Option.some.injEq, Prod.mk.injEq] at h
          refine ⟨by omega, fun i hi => ?_⟩
          by_cases e : i = k
          · subst e; left; simpa [ht] using hn
          · exact i2 i (by omega)
        · cases h
      · rw [logTo_live hk ht] at h
        split at h
        · next hn =>
          simp only [Option.some.injEq, Prod.mk.injEq] at h
          unfold pairB at hn
          simp at hn
          refine ⟨by omega, fun i hi => ?_⟩
          by_cases e : i = k
          · subst e; right; exact ⟨by omega, hn.1.1.1.2, hn.1.1.2, hn.1.2, hn.2⟩
          · exact i2 i (by omega)
        · cases h
theorem D2.entry {d : Dc} (h : D2 d) {i : Nat} (hi : i < d.n) : Entry d i := by
  obtain ⟨l, e⟩ := h
  exact (logTo_entries d.n e).2 i hi
theorem D2.pos {d : Dc} (h : D2 d) {i : Nat} (hi : i < d.n) (ht : (d.L i).turn ≠ 0) : 0 < (d.L i).turn ∧ keyB (d.L i).key = true := by
  rcases h.entry hi with h | h
  · exact absurd h.1 ht
  · exact ⟨h.1, h.2.2.1⟩

def indexedK (d : Dc) (i : Nat) : Prop := 0 < (d.L i).turn ∧ ¬ smallK d.m (d.L i).key

set_option maxHeartbeats 1000000 in
theorem l1indexed_any (c o : Nat) (la : Option Addr) (lc : Nat) (ia : Option Addr) (ic : Nat) (xa : Option Addr) (xc : Nat) (d : Dc) (q : Nat) (w : World) (hD : DPtr w c o la lc ia ic xa xc d) (hS : Small d) (hq : q < d.n) :
    Calls Tryz.prog 69 #[Pc c o, .int .i64 (q : Int)] w fun e w' => e = .returned (.bool (tells (indexedK d q))) ∧ Below w.heap.size w w' := by
  have hn := hS.n
  have c0 := hD.c0
  have hlt := hD.lt
  obtain ⟨b, off, rfl, hll, hls⟩ := hD.rows.log.resolve_left (by omega)
  obtain ⟨e0, e1, e2, e3, e4, e5, e6, e7, e8, e9, e10⟩ := hls q hq
  have HD := hide hD
  have HS := hide hS
  clear hD hS hls
  by_cases h1 : 0 < (d.L q).turn
  case neg =>
    have HT := hide (tells_no (p := indexedK d q) (fun h => h1 h.1))
    have h1' : decide (0 < (d.L q).turn) = false := by simp; omega
    clear h1
    go_enter Tryz.func69, Tryz.ntmps69
    go_wp2
    go_ret
    exact ⟨by rw [unhide HT]; rfl, (Below.refl _ _).alloc (Nat.le_refl _) _⟩
  have h1' : decide (0 < (d.L q).turn) = true := by simp [h1]
  have HR : Hid (tells (indexedK d q) = !tells (smallK d.m (d.L q).key)) := hide (by
    by_cases hs : smallK d.m (d.L q).key
    · rw [tells_yes hs, tells_no (fun h => h.2 hs)]; rfl
    · rw [tells_no hs, tells_yes ⟨h1, hs⟩]; rfl)
  clear h1
  go_enter Tryz.func69, Tryz.ntmps69
  go_wp2_with fail
  refine (l1small_any c o (some ⟨b, off, none⟩) lc ia ic xa xc d (d.L q).key _ ((unhide HD).below ((Below.refl _ _).alloc (Nat.le_refl _) _)) (unhide HS)).mono ?_
  rintro e w1 ⟨rfl, hb⟩
  have HB := hide hb
  clear hb
  go_wp2
  go_ret
  exact ⟨by rw [unhide HR]; simp, ((Below.refl _ _).alloc (Nat.le_refl _) _).trans ((unhide HB).mono (by simp))⟩

theorem pow2_half {a : Nat} (h : 1 ≤ a) : Pow2 (2 * a) ↔ Pow2 a := by
  constructor
  · rintro ⟨k, hk⟩
    cases k with
    | zero => simp at hk; omega
    | succ k => exact ⟨k, by rw [Nat.pow_succ] at hk; omega⟩
  · rintro ⟨k, hk⟩
    exact ⟨k + 1, by rw [Nat.pow_succ, hk]; omega⟩
theorem pow2_odd {a : Nat} (h : 1 < a) (ho : a % 2 ≠ 0) : ¬ Pow2 a := by
  rintro ⟨k, hk⟩
  cases k with
  | zero => simp at hk; omega
  | succ k => rw [Nat.pow_succ] at hk; omega
theorem pow2_one : Pow2 1 := ⟨0, rfl⟩

theorem usedTo_le (d : Dc) (k : Nat) : usedTo d k ≤ k := by
  induction k with
  | zero => exact Nat.le_refl _
  | succ k ih => unfold usedTo; split <;> omega

def SizeX (x : Nat) : Prop := x = 0 ∨ (8 ≤ x ∧ x ≤ 4000 ∧ Pow2 x)
theorem not_D4 {d : Dc} {k : Nat} (hk : k < d.x) (h : ¬ okSlot d k) : tells (D4 d) = false := tells_no (fun h' => h (h'.2.1 k hk))
theorem not_D4' {d : Dc} (h : ¬ SizeX d.x) : tells (D4 d) = false := tells_no (fun h' => h h'.1)

set_option maxRecDepth 100000 in
set_option maxHeartbeats 2000000 in
theorem l1indexok_any (c o : Nat) (la : Option Addr) (lc : Nat) (ia : Option Addr) (ic : Nat) (xa : Option Addr) (xc : Nat) (d : Dc) (w : World) (hD : DPtr w c o la lc ia ic xa xc d) (hS : Small d) (h2 : D2 d) :
    Calls Tryz.prog 46 #[Pc c o] w fun e w' => e = .returned (.bool (tells (D4 d))) ∧ Below w.heap.size w w' := by
  have hn := hS.n
  have hx := hS.x
  have c2 := hD.c2
  have hlt := hD.lt
  have HD := hide hD
  have HS := hide hS
  have H2 := hide h2
  clear hD hS h2
  by_cases s1 : 0 < d.x ∧ d.x < 8
  · have HT := hide (not_D4' (d := d) (fun h => by rcases h with h | h <;> omega))
    obtain ⟨s1, s2⟩ := s1
    go_enter Tryz.func46, Tryz.ntmps46
    go_wp2
    go_ret
    exact ⟨by rw [unhide HT]; rfl, Below.refl _ _⟩
  by_cases s2 : 4000 < d.x
  · have HT := hide (not_D4' (d := d) (fun h => by rcases h with h | h <;> omega))
    have s3 : ¬ (d.x : Int) < 8 := by omega
    have s4 : (0 : Int) < d.x := by omega
    clear s1
    go_enter Tryz.func46, Tryz.ntmps46
    go_wp2
    go_ret
    exact ⟨by rw [unhide HT]; rfl, Below.refl _ _⟩
  have HS1 := hide s1
  clear s1
  go_enter Tryz.func46, Tryz.ntmps46
  have s3 : d.x = 0 ∨ (0 < d.x ∧ ¬ d.x < 8) := by have := unhide HS1; omega
  rcases s3 with s3 | ⟨s3, s4⟩
  · have HX0 := hide s3
    have s3' : ¬ (0 : Int) < d.x := by omega
    clear s3
    have s5 : ¬ (1 : Int) < d.x := by omega
    go_wp2_with fail
    go_loopw [4] (fun m wr => m = .int .i64 d.x ∧ wr = w) (fun _ _ => 0)
    case atStart => exact ⟨rfl, rfl⟩
    case round =>
      obtain ⟨rfl, rfl⟩ := hrel
      go_wp2_with fail
      go_loopw [5, 36] (fun u i wr' => u = .int .i64 0 ∧ i = .int .i64 0 ∧ wr' = wr) (fun _ _ _ => 0)
      case atStart => exact ⟨rfl, rfl, rfl⟩
      case round =>
        obtain ⟨rfl, rfl, rfl⟩ := hrel
        have c3 := (unhide HD).c3
        have hle : (0 : Int) ≤ d.x := by omega
        by_cases hu : (0 : Int) = d.used
        · have HT := hide (tells_yes (p := D4 d) ⟨.inl (unhide HX0), fun j hj => by have := unhide HX0; omega, by rw [unhide HX0]; exact hu, by rw [unhide HX0]; exact Nat.le_refl _⟩)
          have hu' : ((0 : Int) == d.used) = true := by simp [hu]
          have hu'' : (d.used == 0) = true := by simp [← hu]
          rw [← hu] at c3
          clear hu hu' hu''
          go_wp2
          go_ret
          exact ⟨by rw [unhide HT]; rfl, Below.refl _ _⟩
        · have HT := hide (tells_no (p := D4 d) (fun h => by have := h.2.2.1; rw [unhide HX0] at this; exact hu this))
          have hu' : ((0 : Int) == d.used) = false := by simp [hu]
          clear hu
          go_wp2
          go_ret
          exact ⟨by rw [unhide HT]; rfl, Below.refl _ _⟩
  · have HS4 := hide s4
    have s4' : ¬ (d.x : Int) < 8 := by omega
    have s3' : (0 : Int) < d.x := by omega
    have hxl : d.x ≤ 4000 := by omega
    clear s4 s3
    go_wp2_with fail
    go_loopw [4] (fun m wr => ∃ a : Nat, m = .int .i64 a ∧ 1 ≤ a ∧ a ≤ 4000 ∧ (Pow2 d.x ↔ Pow2 a) ∧ wr = w) (fun m _ => (intOf m).toNat)
    case atStart => exact ⟨d.x, rfl, by omega, by omega, Iff.rfl, rfl⟩
    case round =>
      obtain ⟨a, rfl, ha1, ha2, hiff, hww⟩ := hrel
      rw [hww]
      clear hww
      have HI := hide hiff
      clear hiff
      by_cases ha : 1 < a
      · obtain ⟨q, r, hqr, hr⟩ : ∃ q r, a = 2 * q + r ∧ r < 2 := ⟨a / 2, a % 2, by omega, by omega⟩
        have hm : (a : Int).tmod 2 = r := by rw [Int.tmod_eq_emod_of_nonneg (by omega)]; omega
        have hd : (a : Int).tdiv 2 = q := by rw [Int.tdiv_eq_ediv_of_nonneg (by omega)]; omega
        have hr01 : r = 0 ∨ r = 1 := by omega
        rcases hr01 with rfl | rfl
        · have HI2 : Hid (Pow2 d.x ↔ Pow2 q) := hide ((unhide HI).trans (by rw [show a = 2 * q by omega]; exact pow2_half (by omega)))
          go_wp2
          refine ⟨⟨q, rfl, by omega, by omega, unhide HI2, trivial⟩, ?_⟩
          simp [intOf]; omega
        · have HT := hide (not_D4' (d := d) (fun h => by
            rcases h with h | h
            · omega
            · exact pow2_odd ha (by omega) ((unhide HI).1 h.2.2)))
          go_wp2
          go_ret
          exact ⟨by rw [unhide HT]; rfl, Below.refl _ _⟩
      have ha0 : a = 1 := by omega
      subst ha0
      rw [show ((1 : Nat) : Int) = 1 from rfl]
      have HP : Hid (SizeX d.x) := hide (.inr ⟨by omega, by omega, (unhide HI).2 pow2_one⟩)
      clear HI ha1 ha2 ha HS4
      go_wp2_with fail
      clear c2
      go_loopw [5, 36] (fun u i wr => ∃ k : Nat, k ≤ d.x ∧ i = .int .i64 k ∧ u = .int .i64 (usedTo d k) ∧ (∀ j, j < k → okSlot d j) ∧ Below w.heap.size w wr) (fun _ i _ => d.x - (intOf i).toNat)
      case atStart => exact ⟨0, by omega, rfl, rfl, fun j hj => by omega, Below.refl _ _⟩
      case round =>
        obtain ⟨k, hk, rfl, rfl, hall, hb⟩ := hrel
        have hD := (unhide HD).below hb
        have c0 := hD.c0
        have c3 := hD.c3
        have hcl := hD.lt
        have hul := usedTo_le d k
        have HALL := hide hall
        clear hD hall
        by_cases hkn : k < d.x
        case neg =>
          have hkn' : k = d.x := by omega
          subst hkn'
          have HB := hide hb
          clear hb
          by_cases h1 : (usedTo d d.x : Int) = d.used
          case neg =>
            have HT := hide (tells_no (p := D4 d) (fun h => h1 h.2.2.1))
            have h1' : ((usedTo d d.x : Int) == d.used) = false := by simp [h1]
            clear h1
            go_wp2
            go_ret
            exact ⟨by rw [unhide HT]; rfl, unhide HB⟩
          have h1' : ((usedTo d d.x : Int) == d.used) = true := by simp [h1]
          by_cases h2 : 2 * usedTo d d.x ≤ d.x
          · have HT := hide (tells_yes (p := D4 d) ⟨unhide HP, unhide HALL, h1, h2⟩)
            have h2' : decide (2 * (usedTo d d.x : Int) ≤ d.x) = true := by simp; omega
            clear h1 h2
            go_wp2
            go_ret
            exact ⟨by rw [unhide HT]; simp, unhide HB⟩
          · have HT := hide (tells_no (p := D4 d) (fun h => h2 h.2.2.2))
            have h2' : decide (2 * (usedTo d d.x : Int) ≤ d.x) = false := by simp; omega
            clear h1 h2
            go_wp2
            go_ret
            exact ⟨by rw [unhide HT]; simp, unhide HB⟩
        obtain ⟨b, off, rfl, hbl, hcs⟩ := (unhide HD).rows.index.resolve_left (by omega)
        have e0 := (hb.cell (p := ⟨b, off + k, none⟩) hbl).trans (hcs k hkn)
        have hwz := hb.size
        have HB := hide hb
        clear hcs hb
        by_cases p1 : d.X k < -1
        · have HT := hide (not_D4 hkn (fun h => by rcases h with h | h | h <;> omega))
          go_wp2
          go_ret
          exact ⟨by rw [unhide HT]; rfl, unhide HB⟩
        by_cases p2 : (d.n : Int) < d.X k
        · have HT := hide (not_D4 hkn (fun h => by rcases h with h | h | h <;> omega))
          go_wp2
          go_ret
          exact ⟨by rw [unhide HT]; rfl, unhide HB⟩
        by_cases p3 : d.X k = 0
        · have HO : Hid (okSlot d k) := hide (.inl p3)
          have HU : Hid (usedTo d (k + 1) = usedTo d k) := hide (by show (if d.X k = 0 then _ else _) = _; rw [if_pos p3])
          rw [p3] at e0
          clear p1 p2 p3
          go_wp2
          go_roundw
          case rel => exact ⟨k + 1, by omega, by go_num, by rw [unhide HU], fun j hj => (by by_cases e : j = k; exact e ▸ unhide HO; exact unhide HALL j (by omega)), unhide HB⟩
          case measure => simp [intOf]; omega
        have HU : Hid (usedTo d (k + 1) = usedTo d k + 1) := hide (by show (if d.X k = 0 then _ else _) = _; rw [if_neg p3])
        by_cases p4 : d.X k = -1
        · have HO : Hid (okSlot d k) := hide (.inr (.inl p4))
          rw [p4] at e0
          clear p1 p2 p3 p4
          go_wp2
          go_roundw
          case rel => exact ⟨k + 1, by omega, by go_num, by rw [unhide HU]; go_num, fun j hj => (by by_cases e : j = k; exact e ▸ unhide HO; exact unhide HALL j (by omega)), unhide HB⟩
          case measure => simp [intOf]; omega
        obtain ⟨q, hq⟩ : ∃ q : Nat, d.X k = (q : Int) + 1 := ⟨(d.X k - 1).toNat, by omega⟩
        have hqn : q < d.n := by omega
        have HA : Hid (d.at (d.X k) = d.L q) := hide (by unfold Dc.at; rw [hq]; congr 1; omega)
        rw [hq] at e0
        have g0 : ((q : Int) + 1 != 0) = true := by simp; omega
        have g1 : ¬ (q : Int) + 1 < -1 := by omega
        have g2 : ¬ (d.n : Int) < (q : Int) + 1 := by omega
        have HQ := hide hq
        clear p1 p2 p3 p4 hq
        by_cases hi : indexedK d q
        · have HR := hide (tells_yes hi)
          have HO : Hid (okSlot d k) := hide (.inr (.inr ⟨by rw [unhide HQ]; omega, by rw [unhide HQ]; omega, by rw [unhide HA]; have := hi.1; omega, by rw [unhide HA]; exact hi.2⟩))
          clear hi
          go_wp2_with fail
          refine (l1indexed_any c o la lc ia ic (some ⟨b, off, none⟩) xc d q _ ((unhide HD).below (unhide HB)) (unhide HS) hqn).mono ?_
          rintro e w1 ⟨rfl, hb1⟩
          rw [unhide HR]
          have HB1 := hide ((unhide HB).trans (hb1.mono (unhide HB).size))
          clear hb1
          go_wp2
          go_roundw
          case rel => exact ⟨k + 1, by omega, by go_num, by rw [unhide HU]; go_num, fun j hj => (by by_cases e : j = k; exact e ▸ unhide HO; exact unhide HALL j (by omega)), unhide HB1⟩
          case measure => simp [intOf]; omega
        · have HR := hide (tells_no hi)
          have HT := hide (not_D4 hkn (fun h => by
            rcases h with h | h | h
            · rw [unhide HQ] at h; omega
            · rw [unhide HQ] at h; omega
            · rw [unhide HA] at h
              exact hi ⟨((unhide H2).pos hqn h.2.2.1).1, h.2.2.2⟩))
          clear hi
          go_wp2_with fail
          refine (l1indexed_any c o la lc ia ic (some ⟨b, off, none⟩) xc d q _ ((unhide HD).below (unhide HB)) (unhide HS) hqn).mono ?_
          rintro e w1 ⟨rfl, hb1⟩
          rw [unhide HR]
          have HB1 := hide ((unhide HB).trans (hb1.mono (unhide HB).size))
          clear hb1
          go_wp2
          go_ret
          exact ⟨by rw [unhide HT]; rfl, unhide HB1⟩
end Go.Proofs.YtfceeijdmilieaaGreat
namespace Go.Proofs.YtfceeijdmilieaaGreat
open Go.RowKit
set_option linter.unusedVariables false
attribute [local go_sem] run_store_float run_equalIn_float

def feq (a b : Nat) : Bool := FloatKind.f64.format.order a b == some .eq
def likeB (a b : Vl) : Bool := a.kind == b.kind && (a.num == b.num && (feq a.flt b.flt && (a.str.toList == b.str.toList && a.ref == b.ref)))
def probe (d : Dc) (v : Vl) : Nat → Nat → Option Nat
  | _, 0 => none
  | at0, f + 1 => if d.X at0 = 0 then none else if 0 < d.X at0 ∧ likeB (d.at (d.X at0)).key v = true then some at0 else probe d v ((at0 + 1) % d.x) f
def slotOf (d : Dc) (v : Vl) (h : Nat) : Option Nat := if d.x = 0 then none else probe d v (h % d.x) d.x
def slotI : Option Nat → Int
  | none => -1
  | some s => s
def slotP (d : Dc) : Option Nat → Int
  | none => -1
  | some s => d.X s - 1
open Classical in
noncomputable def placeI (d : Dc) (v : Vl) (h : Nat) : Int := if smallK d.m v then d.I (v.num - 1).toNat - 1 else slotP d (slotOf d v h)

theorem probe_zero {d : Dc} {v : Vl} {a f : Nat} (h : d.X a = 0) : probe d v a (f + 1) = none := if_pos h
theorem probe_hit {d : Dc} {v : Vl} {a f : Nat} (h : 0 < d.X a) (hl : likeB (d.at (d.X a)).key v = true) : probe d v a (f + 1) = some a := by
  show (if _ then _ else _) = _
  rw [if_neg (by omega), if_pos ⟨h, hl⟩]
theorem probe_next {d : Dc} {v : Vl} {a f : Nat} (h : d.X a ≠ 0) (hl : ¬ (0 < d.X a ∧ likeB (d.at (d.X a)).key v = true)) : probe d v a (f + 1) = probe d v ((a + 1) % d.x) f := by
  show (if _ then _ else _) = _
  rw [if_neg h, if_neg hl]
theorem probe_lt {d : Dc} {v : Vl} (hx : 0 < d.x) : ∀ (f a s : Nat), a < d.x → probe d v a f = some s → s < d.x ∧ 0 < d.X s := by
  intro f
  induction f with
  | zero => intro a s _ h; cases h
  | succ f ih =>
    intro a s ha h
    by_cases h0 : d.X a = 0
    · rw [probe_zero h0] at h; cases h
    · by_cases hl : 0 < d.X a ∧ likeB (d.at (d.X a)).key v = true
      · rw [probe_hit hl.1 hl.2] at h
        cases h
        exact ⟨ha, hl.1⟩
      · rw [probe_next h0 hl] at h
        exact ih _ _ (Nat.mod_lt _ hx) h
theorem slotOf_lt {d : Dc} {v : Vl} {h s : Nat} (e : slotOf d v h = some s) : s < d.x ∧ 0 < d.X s := by
  unfold slotOf at e
  split at e
  · cases e
  · exact probe_lt (by omega) _ _ _ (Nat.mod_lt _ (by omega)) e

/-- The model's hash of a value. -/
structure HsS (v : Vl) (h : Nat) : Prop where
  lt : h < 18446744073709551616
  call : ∀ w : World, Calls Tryz.prog 88 #[V v.kind v.num v.flt v.str v.ref] w fun e w' => e = .returned (.int .u64 (h : Int)) ∧ Below w.heap.size w w'

set_option maxHeartbeats 1000000 in
theorem l1like_any (a b : Vl) (w : World) :
    Calls Tryz.prog 89 #[V a.kind a.num a.flt a.str a.ref, V b.kind b.num b.flt b.str b.ref] w fun e w' => e = .returned (.bool (likeB a b)) ∧ Below w.heap.size w w' := by
  go_enter Tryz.func89, Tryz.ntmps89
  go_wp2
  all_goals (go_ret; refine ⟨by simp_all [likeB, feq], ((Below.refl _ _).alloc (Nat.le_refl _) _).alloc (by simp) _⟩)

theorem and_mask {x h : Nat} (hp : Pow2 x) (hx : x ≤ 4000) (hh : h < 18446744073709551616) : bits BinOp.and IntKind.u64 (h : Int) ((x : Int) - 1) = ((h % x : Nat) : Int) := by
  obtain ⟨k, rfl⟩ := hp
  have h1 : 0 < 2 ^ k := Nat.two_pow_pos k
  have e : (((2 ^ k : Nat) : Int) - 1) = ((2 ^ k - 1 : Nat) : Int) := by omega
  rw [e, bits_and_u64_nat _ _ hh (by omega), Nat.and_two_pow_sub_one_eq_mod]

set_option maxRecDepth 100000 in
set_option maxHeartbeats 2000000 in
theorem l1slot_any (c o : Nat) (la : Option Addr) (lc : Nat) (ia : Option Addr) (ic : Nat) (xa : Option Addr) (xc : Nat) (d : Dc) (v : Vl) (h : Nat) (w : World) (hD : DPtr w c o la lc ia ic xa xc d) (hS : Small d) (h4 : D4 d) (hh : HsS v h) :
    Calls Tryz.prog 81 #[Pc c o, V v.kind v.num v.flt v.str v.ref] w fun e w' => e = .returned (.int .i64 (slotI (slotOf d v h))) ∧ Below w.heap.size w w' := by
  have hn := hS.n
  have hx := hS.x
  have c2 := hD.c2
  have hlt := hD.lt
  have HD := hide hD
  have HH := hide hh
  have H4 := hide h4
  clear hD hS hh h4
  by_cases h0 : d.x = 0
  · have HR : Hid (slotOf d v h = none) := hide (if_pos h0)
    have h0' : ((d.x : Int) == 0) = true := by simp [h0]
    clear h0
    go_enter Tryz.func81, Tryz.ntmps81
    go_wp2
    go_ret
    exact ⟨by rw [unhide HR]; rfl, (Below.refl _ _).alloc (Nat.le_refl _) _⟩
  have hsx : 8 ≤ d.x ∧ d.x ≤ 4000 ∧ Pow2 d.x := (unhide H4).1.resolve_left h0
  have hand := and_mask (h := h) hsx.2.2 hsx.2.1 (unhide HH).lt
  have hml : h % d.x < d.x := Nat.mod_lt _ (by omega)
  have HR : Hid (slotOf d v h = probe d v (h % d.x) d.x) := hide (if_neg h0)
  have h0' : ((d.x : Int) == 0) = false := by simp; omega
  have hx1 := hsx.1
  have hx2 := hsx.2.1
  obtain ⟨a0, ha0⟩ : ∃ a0, a0 = h % d.x := ⟨_, rfl⟩
  rw [← ha0] at hand hml HR
  have HSX := hide hsx
  clear h0 hsx ha0
  go_enter Tryz.func81, Tryz.ntmps81
  go_wp2_with fail
  refine ((unhide HH).call _).mono ?_
  rintro e w1 ⟨rfl, hb1⟩
  obtain ⟨hc1, hf1⟩ := bcell hb1
  have q0 : w1.cell? ⟨w.heap.size, 0, none⟩ = some (.int .i64 v.kind) := by rw [hc1 _ _ (by simp)]; simp [go_sem]
  have q1 : w1.cell? ⟨w.heap.size, 1, none⟩ = some (.int .i64 v.num) := by rw [hc1 _ _ (by simp)]; simp [go_sem]
  have q2 : w1.cell? ⟨w.heap.size, 2, none⟩ = some (.float .f64 v.flt) := by rw [hc1 _ _ (by simp)]; simp [go_sem]
  have q3 : w1.cell? ⟨w.heap.size, 3, none⟩ = some (.string v.str) := by rw [hc1 _ _ (by simp)]; simp [go_sem]
  have q4 : w1.cell? ⟨w.heap.size, 4, none⟩ = some (.int .i64 v.ref) := by rw [hc1 _ _ (by simp)]; simp [go_sem]
  have hz1 : w.heap.size < w1.heap.size := by have := hb1.size; simp at this; omega
  have HB1 := hide (((Below.refl w.heap.size w).alloc (Nat.le_refl _) _).trans (hb1.mono (by simp)))
  clear hb1 hc1 hf1 c2
  go_wp2_with fail
  go_loopw [6, 7] (fun p i wr => ∃ (a j : Nat), p = .int .i64 a ∧ i = .int .i64 j ∧ a < d.x ∧ j ≤ d.x ∧ probe d v a0 d.x = probe d v a (d.x - j) ∧ Below w1.heap.size w1 wr) (fun _ i _ => d.x - (intOf i).toNat)
  case atStart => exact ⟨a0, 0, by simp, rfl, hml, by omega, rfl, Below.refl _ _⟩
  case round =>
    obtain ⟨a, j, rfl, rfl, ha, hj, hpr, hb⟩ := hrel
    have hD := (unhide HD).below ((unhide HB1).trans (hb.mono (unhide HB1).size))
    have c0 := hD.c0
    have c2 := hD.c2
    have hcl := hD.lt
    have HPR := hide ((unhide HR).trans hpr)
    clear hD hpr hand
    by_cases hjn : j < d.x
    case neg =>
      have HT : Hid (slotOf d v h = none) := hide ((unhide HPR).trans (by rw [show d.x - j = 0 by omega]; rfl))
      have HB := hide hb
      clear hb
      go_wp2
      go_ret
      exact ⟨by rw [unhide HT]; rfl, (unhide HB1).trans ((unhide HB).mono (unhide HB1).size)⟩
    obtain ⟨f, hf⟩ : ∃ f, d.x - j = f + 1 := ⟨d.x - j - 1, by omega⟩
    obtain ⟨b, off, rfl, hbl, hcs⟩ := (unhide HD).rows.index.resolve_left (by omega)
    have e0 := (hb.cell (p := ⟨b, off + a, none⟩) (Nat.lt_of_lt_of_le hbl (unhide HB1).size)).trans (((unhide HB1).cell (p := ⟨b, off + a, none⟩) hbl).trans (hcs a ha))
    have p0 := (hb.cell (p := ⟨w.heap.size, 0, none⟩) hz1).trans q0
    have p1 := (hb.cell (p := ⟨w.heap.size, 1, none⟩) hz1).trans q1
    have p2 := (hb.cell (p := ⟨w.heap.size, 2, none⟩) hz1).trans q2
    have p3 := (hb.cell (p := ⟨w.heap.size, 3, none⟩) hz1).trans q3
    have p4 := (hb.cell (p := ⟨w.heap.size, 4, none⟩) hz1).trans q4
    have hz2 : w.heap.size < wr.heap.size := Nat.lt_of_lt_of_le hz1 hb.size
    have hbw : b < wr.heap.size := Nat.lt_of_lt_of_le (Nat.lt_of_lt_of_le hbl (unhide HB1).size) hb.size
    have HB := hide hb
    rw [hf] at HPR
    have HF := hide hf
    clear hcs hb hf
    by_cases h0 : d.X a = 0
    · have HT : Hid (slotOf d v h = none) := hide ((unhide HPR).trans (probe_zero h0))
      rw [h0] at e0
      clear h0
      go_wp2
      go_ret
      exact ⟨by rw [unhide HT]; rfl, (unhide HB1).trans ((unhide HB).mono (unhide HB1).size)⟩
    have h0' : (d.X a == 0) = false := by simp [h0]
    rcases (unhide H4).2.1 a ha with hs | hs | hs
    · exact absurd hs h0
    · have HT : Hid (slotOf d v h = probe d v ((a + 1) % d.x) f) := hide ((unhide HPR).trans (probe_next h0 (fun h => by omega)))
      rw [hs] at e0
      clear h0 h0' hs p0 p1 p2 p3 p4
      go_wp2_with fail
      refine wp_region_quiet (C := fun w' => Below wr.heap.size wr w') (by kernel_rfl) (by kernel_rfl) ((Below.refl _ _).drew) ?_
      show wpQuiet _ _ _ _ [_, _, _, _, _, _, _, _, _, _, _, _, _, _, _] _
      refine wpQuiet_step (fun K hK => ?_)
      go_simp
      refine ⟨_, fun w' hw' => rfl, hK _ ?_⟩
      clear hK K
      refine wpQuiet_step (fun K hK => ?_)
      go_simp
      refine ⟨_, fun w' hw' => rfl, hK _ ?_⟩
      clear hK K
      refine wpQuiet_step (fun K hK => ?_)
      go_simp
      refine ⟨_, fun w' hw' => rfl, hK _ ?_⟩
      clear hK K
      go_big_quiet_step (fail)
      go_big_quiet_step (fail)
      go_big_quiet_step (fail)
      go_big_quiet_step (fail)
      go_big_quiet_step (fail)
      go_big_quiet_step (fail)
      go_big_quiet_step (fail)
      go_big_quiet_step (fail)
      go_big_quiet_step (fail)
      go_big_quiet_step (fail)
      go_big_quiet_step (fail)
      refine wpQuiet_step (fun K hK => ?_)
      go_simp
      refine ⟨_, fun w' hw' => rfl, hK _ ?_⟩
      clear hK K
      refine wpQuiet_nil ?_
      intro w2 hw2
      have HB2 := hide ((unhide HB).trans (hw2.mono (unhide HB).size))
      clear hw2 e0 c0 c2
      by_cases hw : a + 1 = d.x
      · have hw' : ((a : Int) + 1 == d.x) = true := by simp; omega
        have HM : Hid ((a + 1) % d.x = 0) := hide (by rw [hw]; exact Nat.mod_self _)
        clear hw
        go_wp2
        go_roundw
        case rel => exact ⟨0, j + 1, rfl, by go_num, by omega, by omega, by rw [← unhide HR, unhide HT, unhide HM, show d.x - (j + 1) = f by have := unhide HF; omega], unhide HB2⟩
        case measure => simp [intOf]; omega
      · have hw' : ((a : Int) + 1 == d.x) = false := by simp; omega
        have HM : Hid ((a + 1) % d.x = a + 1) := hide (Nat.mod_eq_of_lt (by omega))
        have hw2 : a + 1 < d.x := by omega
        clear hw
        go_wp2
        go_roundw
        case rel => exact ⟨a + 1, j + 1, by go_num, by go_num, by omega, by omega, by rw [← unhide HR, unhide HT, unhide HM, show d.x - (j + 1) = f by have := unhide HF; omega], unhide HB2⟩
        case measure => simp [intOf]; omega
    obtain ⟨q, hq⟩ : ∃ q : Nat, d.X a = (q : Int) + 1 := ⟨(d.X a - 1).toNat, by omega⟩
    have hqn : q < d.n := by omega
    obtain ⟨lb, lo, rfl, hll, hls⟩ := (unhide HD).rows.log.resolve_left (by omega)
    obtain ⟨e1, e2, e3, e4, e5, _, _, _, _, _, _⟩ := (hls q hqn).keep (fun q => ((unhide HB).cell (p := ⟨lb, q, none⟩) (Nat.lt_of_lt_of_le hll (unhide HB1).size)).trans ((unhide HB1).cell (p := ⟨lb, q, none⟩) hll))
    have hlw : lb < wr.heap.size := Nat.lt_of_lt_of_le (Nat.lt_of_lt_of_le hll (unhide HB1).size) (unhide HB).size
    have HA : Hid (d.at (d.X a) = d.L q) := hide (by unfold Dc.at; rw [hq]; congr 1; omega)
    rw [hq] at e0 h0'
    have hpos : decide ((0 : Int) < (q : Int) + 1) = true := decide_eq_true (by omega)
    have hwq : IntKind.i64.wrap (q : Int) = q := by rw [IntKind.wrap_i64]; omega
    have HQ := hide hq
    have H0 := hide h0
    clear hls hs hq h0
    cases hlk : likeB (d.L q).key v
    · have HT : Hid (slotOf d v h = probe d v ((a + 1) % d.x) f) := hide ((unhide HPR).trans (probe_next (unhide H0) (fun h => by rw [unhide HA, hlk] at h; exact absurd h.2 (by decide))))
      go_wp2_with fail
      refine wp_region_quiet (C := fun w' => Below wr.heap.size wr w') (by kernel_rfl) (by kernel_rfl) ((Below.refl _ _).drew) ?_
      show wpQuiet _ _ _ _ [_, _, _, _, _, _, _, _, _, _, _, _, _, _, _] _
      refine wpQuiet_step (fun K hK => ?_)
      go_simp
      refine ⟨_, fun w' hw' => rfl, hK _ ?_⟩
      clear hK K
      refine wpQuiet_step (fun K hK => ?_)
      go_simp
      refine ⟨_, fun w' hw' => rfl, hK _ ?_⟩
      clear hK K
      refine wpQuiet_step (fun K hK => ?_)
      go_simp
      refine ⟨_, fun w' hw' => rfl, hK _ ?_⟩
      clear hK K
      refine wpQuiet_step (fun K hK => ?_)
      go_simp
      refine ⟨_, fun w' hw' => rfl, hK _ ?_⟩
      clear hK K
      refine wpQuiet_step (fun K hK => ?_)
      go_simp
      refine ⟨_, fun w' hw' => rfl, hK _ ?_⟩
      clear hK K
      refine wpQuiet_step (fun K hK => ?_)
      go_simp
      refine ⟨_, fun w' hw' => rfl, hK _ ?_⟩
      clear hK K
      refine wpQuiet_step (fun K hK => ?_)
      go_simp
      apply Exists.intro
      refine And.intro (fun w' hw' => ?_) (hK _ ?_)
      · obtain ⟨hc', hf'⟩ := bcell hw'
        go_simp
        first | rfl | exact ⟨rfl, rfl⟩ | exact ⟨rfl⟩
      clear hK K
      refine wpQuiet_step (fun K hK => ?_)
      go_simp
      refine ⟨_, fun w' hw' => rfl, hK _ ?_⟩
      clear hK K
      refine wpQuiet_step (fun K hK => ?_)
      go_simp
      refine ⟨_, fun w' hw' => rfl, hK _ ?_⟩
      clear hK K
      refine wpQuiet_step (fun K hK => ?_)
      go_simp
      refine ⟨_, fun w' hw' => rfl, hK _ ?_⟩
      clear hK K
      refine wpQuiet_step (fun K hK => ?_)
      go_simp
      refine ⟨_, fun w' hw' => rfl, hK _ ?_⟩
      clear hK K
      refine wpQuiet_step (fun K hK => ?_)
      go_simp
      apply Exists.intro
      refine And.intro (fun w' hw' => ?_) (hK _ ?_)
      · obtain ⟨hc', hf'⟩ := bcell hw'
        go_simp
        first | rfl | exact ⟨rfl, rfl⟩ | exact ⟨rfl⟩
      clear hK K
      refine wpQuiet_step (fun K hK => ?_)
      go_simp
      apply Exists.intro
      refine And.intro (fun w' hw' => ?_) (hK _ ?_)
      · obtain ⟨hc', hf'⟩ := bcell hw'
        go_simp
        first | rfl | exact ⟨rfl, rfl⟩ | exact ⟨rfl⟩
      clear hK K
      refine wpQuiet_step (fun K hK => ?_)
      go_simp
      apply Exists.intro
      refine And.intro (fun w' hw' => ?_) (hK _ ?_)
      · refine ((hlk ▸ l1like_any (d.L q).key v _)).mono ?_
        rintro e w'' ⟨rfl, hb⟩
        exact ⟨rfl, hw'.trans (hb.mono hw'.size)⟩
      clear hK K
      refine wpQuiet_step (fun K hK => ?_)
      go_simp
      refine ⟨_, fun w' hw' => rfl, hK _ ?_⟩
      clear hK K
      refine wpQuiet_nil ?_
      intro w2 hw2
      have HB2 := hide ((unhide HB).trans (hw2.mono (unhide HB).size))
      clear hw2 e0 c0 c2
      by_cases hw : a + 1 = d.x
      · have hw' : ((a : Int) + 1 == d.x) = true := by simp; omega
        have HM : Hid ((a + 1) % d.x = 0) := hide (by rw [hw]; exact Nat.mod_self _)
        clear hw
        go_wp2
        go_roundw
        case rel => exact ⟨0, j + 1, rfl, by go_num, by omega, by omega, by rw [← unhide HR, unhide HT, unhide HM, show d.x - (j + 1) = f by have := unhide HF; omega], unhide HB2⟩
        case measure => simp [intOf]; omega
      · have hw' : ((a : Int) + 1 == d.x) = false := by simp; omega
        have HM : Hid ((a + 1) % d.x = a + 1) := hide (Nat.mod_eq_of_lt (by omega))
        have hw2 : a + 1 < d.x := by omega
        clear hw
        go_wp2
        go_roundw
        case rel => exact ⟨a + 1, j + 1, by go_num, by go_num, by omega, by omega, by rw [← unhide HR, unhide HT, unhide HM, show d.x - (j + 1) = f by have := unhide HF; omega], unhide HB2⟩
        case measure => simp [intOf]; omega
    · have HT : Hid (slotOf d v h = some a) := hide ((unhide HPR).trans (probe_hit (by rw [unhide HQ]; omega) (by rw [unhide HA]; exact hlk)))
      go_wp2_with fail
      refine wp_region_quiet (C := fun w' => Below wr.heap.size wr w') (by kernel_rfl) (by kernel_rfl) ((Below.refl _ _).drew) ?_
      show wpQuiet _ _ _ _ [_, _, _, _, _, _, _, _, _, _, _, _, _, _, _] _
      refine wpQuiet_step (fun K hK => ?_)
      go_simp
      refine ⟨_, fun w' hw' => rfl, hK _ ?_⟩
      clear hK K
      refine wpQuiet_step (fun K hK => ?_)
      go_simp
      refine ⟨_, fun w' hw' => rfl, hK _ ?_⟩
      clear hK K
      refine wpQuiet_step (fun K hK => ?_)
      go_simp
      refine ⟨_, fun w' hw' => rfl, hK _ ?_⟩
      clear hK K
      refine wpQuiet_step (fun K hK => ?_)
      go_simp
      refine ⟨_, fun w' hw' => rfl, hK _ ?_⟩
      clear hK K
      refine wpQuiet_step (fun K hK => ?_)
      go_simp
      refine ⟨_, fun w' hw' => rfl, hK _ ?_⟩
      clear hK K
      refine wpQuiet_step (fun K hK => ?_)
      go_simp
      refine ⟨_, fun w' hw' => rfl, hK _ ?_⟩
      clear hK K
      refine wpQuiet_step (fun K hK => ?_)
      go_simp
      apply Exists.intro
      refine And.intro (fun w' hw' => ?_) (hK _ ?_)
      · obtain ⟨hc', hf'⟩ := bcell hw'
        go_simp
        first | rfl | exact ⟨rfl, rfl⟩ | exact ⟨rfl⟩
      clear hK K
      refine wpQuiet_step (fun K hK => ?_)
      go_simp
      refine ⟨_, fun w' hw' => rfl, hK _ ?_⟩
      clear hK K
      refine wpQuiet_step (fun K hK => ?_)
      go_simp
      refine ⟨_, fun w' hw' => rfl, hK _ ?_⟩
      clear hK K
      refine wpQuiet_step (fun K hK => ?_)
      go_simp
      refine ⟨_, fun w' hw' => rfl, hK _ ?_⟩
      clear hK K
      refine wpQuiet_step (fun K hK => ?_)
      go_simp
      refine ⟨_, fun w' hw' => rfl, hK _ ?_⟩
      clear hK K
      refine wpQuiet_step (fun K hK => ?_)
      go_simp
      apply Exists.intro
      refine And.intro (fun w' hw' => ?_) (hK _ ?_)
      · obtain ⟨hc', hf'⟩ := bcell hw'
        go_simp
        first | rfl | exact ⟨rfl, rfl⟩ | exact ⟨rfl⟩
      clear hK K
      refine wpQuiet_step (fun K hK => ?_)
      go_simp
      apply Exists.intro
      refine And.intro (fun w' hw' => ?_) (hK _ ?_)
      · obtain ⟨hc', hf'⟩ := bcell hw'
        go_simp
        first | rfl | exact ⟨rfl, rfl⟩ | exact ⟨rfl⟩
      clear hK K
      refine wpQuiet_step (fun K hK => ?_)
      go_simp
      apply Exists.intro
      refine And.intro (fun w' hw' => ?_) (hK _ ?_)
      · refine ((hlk ▸ l1like_any (d.L q).key v _)).mono ?_
        rintro e w'' ⟨rfl, hb⟩
        exact ⟨rfl, hw'.trans (hb.mono hw'.size)⟩
      clear hK K
      refine wpQuiet_step (fun K hK => ?_)
      go_simp
      refine ⟨_, fun w' hw' => rfl, hK _ ?_⟩
      clear hK K
      refine wpQuiet_nil ?_
      intro w2 hw2
      have HB2 := hide ((unhide HB).trans (hw2.mono (unhide HB).size))
      clear hw2 e0 c0 c2
      go_wp2
      go_ret
      exact ⟨by rw [unhide HT]; rfl, (unhide HB1).trans ((unhide HB2).mono (unhide HB1).size)⟩
end Go.Proofs.YtfceeijdmilieaaGreat
namespace Go.Proofs.YtfceeijdmilieaaGreat
open Go.RowKit
set_option linter.unusedVariables false
attribute [local go_sem] run_store_float run_equalIn_float

set_option maxHeartbeats 1000000 in
theorem l1place_any (c o : Nat) (la : Option Addr) (lc : Nat) (ia : Option Addr) (ic : Nat) (xa : Option Addr) (xc : Nat) (d : Dc) (v : Vl) (h : Nat) (w : World) (hD : DPtr w c o la lc ia ic xa xc d) (hS : Small d) (h3 : D3 d) (h4 : D4 d) (hh : HsS v h) :
    Calls Tryz.prog 70 #[Pc c o, V v.kind v.num v.flt v.str v.ref] w fun e w' => e = .returned (.int .i64 (placeI d v h)) ∧ Below w.heap.size w w' := by
  have HD := hide hD
  have HS := hide hS
  have H3 := hide h3
  have H4 := hide h4
  have HH := hide hh
  have hb0 : Below w.heap.size w (w.alloc (.cells #[.int .i64 v.kind, .int .i64 v.num, .float .f64 v.flt, .string v.str, .int .i64 v.ref] 85)) := (Below.refl _ _).alloc (Nat.le_refl _) _
  have HB0 := hide hb0
  clear hD hS h3 h4 hh hb0
  go_enter Tryz.func70, Tryz.ntmps70
  go_wp2_with fail
  refine (l1small_any c o la lc ia ic xa xc d v _ ((unhide HD).below (unhide HB0)) (unhide HS)).mono ?_
  rintro e w1 ⟨rfl, hb1⟩
  obtain ⟨hc1, hf1⟩ := bcell hb1
  have q0 : w1.cell? ⟨w.heap.size, 0, none⟩ = some (.int .i64 v.kind) := by rw [hc1 _ _ (by simp)]; simp [go_sem]
  have q1 : w1.cell? ⟨w.heap.size, 1, none⟩ = some (.int .i64 v.num) := by rw [hc1 _ _ (by simp)]; simp [go_sem]
  have q2 : w1.cell? ⟨w.heap.size, 2, none⟩ = some (.float .f64 v.flt) := by rw [hc1 _ _ (by simp)]; simp [go_sem]
  have q3 : w1.cell? ⟨w.heap.size, 3, none⟩ = some (.string v.str) := by rw [hc1 _ _ (by simp)]; simp [go_sem]
  have q4 : w1.cell? ⟨w.heap.size, 4, none⟩ = some (.int .i64 v.ref) := by rw [hc1 _ _ (by simp)]; simp [go_sem]
  have hz1 : w.heap.size < w1.heap.size := by have := hb1.size; simp at this; omega
  have HB1 := hide ((unhide HB0).trans (hb1.mono (unhide HB0).size))
  clear hb1 hc1 hf1
  by_cases hs : smallK d.m v
  · rw [tells_yes hs]
    obtain ⟨k1, k2, k3⟩ := hs
    obtain ⟨q, hq⟩ : ∃ q : Nat, v.num = (q : Int) + 1 := ⟨(v.num - 1).toNat, by omega⟩
    have hqm : q < d.m := by omega
    have HR : Hid (placeI d v h = d.I q - 1) := hide (by unfold placeI; rw [if_pos ⟨k1, k2, k3⟩, hq]; congr 2; omega)
    obtain ⟨b, off, rfl, hbl, hcs⟩ := (unhide HD).rows.ints.resolve_left (by omega)
    have e0 := ((unhide HB1).cell (p := ⟨b, off + q, none⟩) hbl).trans (hcs q hqm)
    have c1 := ((unhide HD).below (unhide HB1)).c1
    have hm := (unhide HS).m
    have hn := (unhide HS).n
    have hI : 0 ≤ d.I q ∧ d.I q ≤ d.n := by
      rcases (unhide H3).1 q hqm with hh | hh
      · omega
      · exact ⟨by omega, hh.2.1⟩
    have hwI : IntKind.i64.wrap (d.I q - 1) = d.I q - 1 := by rw [IntKind.wrap_i64]; omega
    have hwq : IntKind.i64.wrap (q : Int) = q := by rw [IntKind.wrap_i64]; omega
    have hbw : b < w1.heap.size := Nat.lt_of_lt_of_le hbl (unhide HB1).size
    have hcw : c < w1.heap.size := Nat.lt_of_lt_of_le (unhide HD).lt (unhide HB1).size
    rw [hq] at q1
    have HQ := hide hq
    clear hcs k1 k2 k3 hq hI
    go_wp2_with fail
    go_quiet (fail)
    go_wp2
    go_ret
    exact ⟨by rw [unhide HR]; simp, below_drewN' (unhide HB1) _⟩
  · rw [tells_no hs]
    have HR : Hid (placeI d v h = slotP d (slotOf d v h)) := hide (by unfold placeI; rw [if_neg hs])
    have HS0 := hide hs
    clear hs
    go_wp2_with fail
    refine (l1slot_any c o la lc ia ic xa xc d v h _ ((unhide HD).below (unhide HB1)) (unhide HS) (unhide H4) (unhide HH)).mono ?_
    rintro e w2 ⟨rfl, hb2⟩
    have HB2 := hide ((unhide HB1).trans (hb2.mono (unhide HB1).size))
    clear hb2
    cases hsl : slotOf d v h with
    | none =>
      have HR' : Hid (placeI d v h = -1) := hide ((unhide HR).trans (by rw [hsl]; rfl))
      simp only [slotI]
      go_wp2
      go_ret
      exact ⟨by rw [unhide HR']; rfl, unhide HB2⟩
    | some s =>
      have HR' : Hid (placeI d v h = d.X s - 1) := hide ((unhide HR).trans (by rw [hsl]; rfl))
      obtain ⟨hsx, hsp⟩ := slotOf_lt hsl
      simp only [slotI]
      obtain ⟨b, off, rfl, hbl, hcs⟩ := (unhide HD).rows.index.resolve_left (by omega)
      have e0 := ((unhide HB2).cell (p := ⟨b, off + s, none⟩) hbl).trans (hcs s hsx)
      have c2 := ((unhide HD).below (unhide HB2)).c2
      have hx := (unhide HS).x
      have hn := (unhide HS).n
      have hX : d.X s ≤ d.n := by
        rcases (unhide H4).2.1 s hsx with hh | hh | hh <;> omega
      have hwI : IntKind.i64.wrap (d.X s - 1) = d.X s - 1 := by rw [IntKind.wrap_i64]; omega
      clear hcs hsl hsp hX
      go_wp2
      go_ret
      exact ⟨by rw [unhide HR']; simp, unhide HB2⟩

def D5 (d : Dc) (H : Nat → Nat) : Prop := ∀ i, i < d.n → (d.L i).turn ≠ 0 → cnt d.I i d.m + cnt d.X i d.x = 1 ∧ placeI d (d.L i).key (H i) = i ∧ ¬ ((d.L i).key.kind = 2 ∧ (d.L i).key.num = (d.m : Int) + 1)
def ok5 (d : Dc) (H : Nat → Nat) (i : Nat) : Prop := (d.L i).turn ≠ 0 → cnt d.I i d.m + cnt d.X i d.x = 1 ∧ placeI d (d.L i).key (H i) = i ∧ ¬ ((d.L i).key.kind = 2 ∧ (d.L i).key.num = (d.m : Int) + 1)
theorem not_D5 {d : Dc} {H : Nat → Nat} {k : Nat} (hk : k < d.n) (h : ¬ ok5 d H k) : tells (D5 d H) = false := tells_no (fun h' => h (h' k hk))

theorem make_ints (n : Nat) (hn : n ≤ 4194304) (w : World) :
    (Instr.makeSlice 47 (.int .i64 (n : Int)) (.int .i64 (n : Int))).run Tryz.prog w = .ok (.slice (some ⟨w.heap.size, 0, none⟩) n n) (w.alloc (.cells (madeCells (Value.int .i64 0).cells n) 3)) := by
  obtain ⟨i, hi, hz, hs, hb⟩ := info_parts infoInt
  have := run_make (P := Tryz.prog) w 47 3 i _ Tryz.underlying47 hi hz .i64 .i64 n n (by omega) (Int.le_refl _) (by rw [hb]; omega) (by omega)
  simp only [Int.toNat_natCast, hs, Nat.mul_one] at this
  exact this
theorem made_zeros (w : World) (n : Nat) : (w.alloc (.cells (madeCells (Value.int .i64 0).cells n) 3)).rowIs w.heap.size 3 n (fun _ => .int .i64 0) := by
  have h := World.rowIs_alloc w (madeCells (Value.int .i64 0).cells n) 3 (fun _ => .int .i64 0) (fun i hi => by
    rw [size_madeCells] at hi
    unfold madeCells
    simp [Value.cells, hi, Nat.mod_one])
  rw [size_madeCells] at h
  exact h

theorem cnt_le (f : Nat → Int) (i k : Nat) : cnt f i k ≤ k := by
  induction k with
  | zero => exact Nat.le_refl _
  | succ k ih => unfold cnt; split <;> omega
/-- A row of counts. -/
def Counts (w : World) (b n : Nat) (g : Nat → Nat) : Prop := ∃ h, w.rowIs b 3 n h ∧ ∀ j, j < n → h j = .int .i64 (g j)
theorem Counts.cell {w : World} {b n : Nat} {g : Nat → Nat} (h : Counts w b n g) {j : Nat} (hj : j < n) : w.cell? ⟨b, j, none⟩ = some (.int .i64 (g j)) := by
  obtain ⟨h0, hr, hg⟩ := h
  rw [hr.cell hj, hg j hj]
theorem Counts.frozen {w : World} {b n : Nat} {g : Nat → Nat} (h : Counts w b n g) (j : Nat) : w.frozen? ⟨b, j, none⟩ = false := by
  obtain ⟨h0, hr, hg⟩ := h
  exact hr.frozen j
theorem Counts.lt {w : World} {b n : Nat} {g : Nat → Nat} (h : Counts w b n g) : b < w.heap.size := by
  obtain ⟨h0, hr, hg⟩ := h
  exact hr.lt
theorem Counts.below {w w' : World} {b n : Nat} {g : Nat → Nat} (h : Counts w b n g) (hb : Below w.heap.size w w') : Counts w' b n g := by
  obtain ⟨h0, hr, hg⟩ := h
  exact ⟨h0, hr.of_block (hb.block b hr.lt), hg⟩
theorem Counts.bump {w : World} {b n q : Nat} {g : Nat → Nat} (h : Counts w b n g) : Counts (w.setCell ⟨b, q, none⟩ (.int .i64 ((g q : Int) + 1))) b n (fun j => if j = q then g q + 1 else g j) := by
  obtain ⟨h0, hr, hg⟩ := h
  refine ⟨_, hr.set q _, fun j hj => ?_⟩
  by_cases e : j = q
  · subst e; simp
  · simp only [e, if_false]; exact hg j hj
theorem Counts.congr {w : World} {b n : Nat} {g g' : Nat → Nat} (h : Counts w b n g) (e : ∀ j, j < n → g' j = g j) : Counts w b n g' := by
  obtain ⟨h0, hr, hg⟩ := h
  exact ⟨h0, hr, fun j hj => by rw [e j hj]; exact hg j hj⟩

set_option maxRecDepth 100000 in
set_option maxHeartbeats 2000000 in
theorem l1found_any (c o : Nat) (la : Option Addr) (lc : Nat) (ia : Option Addr) (ic : Nat) (xa : Option Addr) (xc : Nat) (d : Dc) (H : Nat → Nat) (w : World) (hD : DPtr w c o la lc ia ic xa xc d) (hS : Small d) (h3 : D3 d) (h4 : D4 d) (hH : ∀ i, i < d.n → (d.L i).turn ≠ 0 → HsS (d.L i).key (H i)) :
    Calls Tryz.prog 47 #[Pc c o] w fun e w' => e = .returned (.bool (tells (D5 d H))) ∧ Below w.heap.size w w' := by
  have hn := hS.n
  have hm := hS.m
  have hx := hS.x
  have c0 := hD.c0
  have c1 := hD.c1
  have hlt := hD.lt
  have hmk := make_ints d.n hn
  have HC0 : Hid (Counts (w.alloc (.cells (madeCells (Value.int .i64 0).cells d.n) 3)) w.heap.size d.n (fun j => cnt d.I j 0)) := hide ⟨_, made_zeros w d.n, fun j hj => rfl⟩
  have HD := hide hD
  have HS := hide hS
  have H3 := hide h3
  have H4 := hide h4
  have HH := hide hH
  clear hD hS h3 h4 hH
  go_enter Tryz.func47, Tryz.ntmps47
  go_wp2
  clear c0 c1 hmk
  go_loopw [21] (fun i wr => ∃ k : Nat, k ≤ d.m ∧ i = .int .i64 k ∧ Counts wr w.heap.size d.n (fun j => cnt d.I j k) ∧ Below w.heap.size w wr) (fun i _ => d.m - (intOf i).toNat)
  case atStart => exact ⟨0, by omega, rfl, unhide HC0, (Below.refl _ _).alloc (Nat.le_refl _) _⟩
  case round =>
    clear HC0
    obtain ⟨k, hk, rfl, hct, hb⟩ := hrel
    by_cases hkn : k < d.m
    · obtain ⟨b, off, rfl, hbl, hcs⟩ := (unhide HD).rows.ints.resolve_left (by omega)
      have e0 := (hb.cell (p := ⟨b, off + k, none⟩) hbl).trans (hcs k hkn)
      have hsl := hct.lt
      have HB := hide hb
      rcases (unhide H3).1 k hkn with hz | hz
      · have HC : Hid (Counts wr w.heap.size d.n (fun j => cnt d.I j (k + 1))) := hide (hct.congr (fun j hj => by show (if _ then _ else _) = _; rw [if_neg (by omega)]))
        rw [hz] at e0
        clear hcs hb hct hz
        go_wp2
        go_roundw
        case rel => exact ⟨k + 1, by omega, by go_num, unhide HC, unhide HB⟩
        case measure => simp [intOf]; omega
      · obtain ⟨q, hq⟩ : ∃ q : Nat, d.I k = (q : Int) + 1 := ⟨(d.I k - 1).toNat, by omega⟩
        have hqn : q < d.n := by omega
        have r0 := hct.cell hqn
        have r1 := hct.frozen q
        have hcl := cnt_le d.I q k
        have HC : Hid (Counts (wr.setCell ⟨w.heap.size, q, none⟩ (.int .i64 ((cnt d.I q k : Int) + 1))) w.heap.size d.n (fun j => cnt d.I j (k + 1))) := hide (hct.bump.congr (fun j hj => by
          show (if d.I k = (j : Int) + 1 then _ else _) = (if j = q then _ else _)
          by_cases e : j = q
          · subst e; rw [if_pos hq, if_pos rfl]
          · rw [if_neg (by omega), if_neg e]))
        rw [hq] at e0
        clear hcs hb hct hz hq
        go_wp2
        go_roundw
        case rel => exact ⟨k + 1, by omega, by go_num, unhide HC, (unhide HB).setCell (by exact Nat.le_refl _) _⟩
        case measure => simp [intOf]; omega
    have hkn' : k = d.m := by omega
    subst hkn'
    have HC := hide hct
    have HB := hide hb
    have hD := (unhide HD).below hb
    have c2 := hD.c2
    have hcl := hD.lt
    clear hct hb hD hk hkn
    go_wp2
    clear c2
    go_loopw [40] (fun i wr => ∃ k : Nat, k ≤ d.x ∧ i = .int .i64 k ∧ Counts wr w.heap.size d.n (fun j => cnt d.I j d.m + cnt d.X j k) ∧ Below w.heap.size w wr) (fun i _ => d.x - (intOf i).toNat)
    case atStart => exact ⟨0, by omega, rfl, unhide HC, unhide HB⟩
    case round =>
      clear HC HB hcl
      obtain ⟨k, hk, rfl, hct, hb⟩ := hrel
      by_cases hkn : k < d.x
      · obtain ⟨b, off, rfl, hbl, hcs⟩ := (unhide HD).rows.index.resolve_left (by omega)
        have e0 := (hb.cell (p := ⟨b, off + k, none⟩) hbl).trans (hcs k hkn)
        have hsl := hct.lt
        have HB := hide hb
        by_cases hz : 0 < d.X k
        case neg =>
          have HC : Hid (Counts wr w.heap.size d.n (fun j => cnt d.I j d.m + cnt d.X j (k + 1))) := hide (hct.congr (fun j hj => by show _ + (if _ then _ else _) = _; rw [if_neg (by omega)]))
          have hz' : decide (0 < d.X k) = false := by simp; omega
          clear hcs hb hct
          go_wp2
          go_roundw
          case rel => exact ⟨k + 1, by omega, by go_num, unhide HC, unhide HB⟩
          case measure => simp [intOf]; omega
        · obtain ⟨q, hq⟩ : ∃ q : Nat, d.X k = (q : Int) + 1 := ⟨(d.X k - 1).toNat, by omega⟩
          have hqn : q < d.n := by rcases (unhide H4).2.1 k hkn with hh | hh | hh <;> omega
          have r0 := hct.cell hqn
          have r1 := hct.frozen q
          have hcl := cnt_le d.I q d.m
          have hcl2 := cnt_le d.X q k
          have HC : Hid (Counts (wr.setCell ⟨w.heap.size, q, none⟩ (.int .i64 (((cnt d.I q d.m + cnt d.X q k : Nat) : Int) + 1))) w.heap.size d.n (fun j => cnt d.I j d.m + cnt d.X j (k + 1))) := hide (hct.bump.congr (fun j hj => by
            show _ + (if d.X k = (j : Int) + 1 then _ else _) = (if j = q then _ else _)
            by_cases e : j = q
            · subst e; rw [if_pos hq, if_pos rfl]; omega
            · rw [if_neg (by omega), if_neg e]))
          generalize hcc : cnt d.I q d.m + cnt d.X q k = cc at r0 HC
          have hcb : cc ≤ 8388608 := by omega
          rw [hq] at e0
          clear hcs hb hct hz hq hcc hcl hcl2
          go_wp2
          go_roundw
          case rel => exact ⟨k + 1, by omega, by go_num, unhide HC, (unhide HB).setCell (by exact Nat.le_refl _) _⟩
          case measure => simp [intOf]; omega
      have hkn' : k = d.x := by omega
      subst hkn'
      have HC := hide hct
      have HB := hide hb
      have hD := (unhide HD).below hb
      have c0 := hD.c0
      have hcl := hD.lt
      clear hct hb hD hk hkn
      go_wp2
      clear c0
      go_loopw [59] (fun i wr => ∃ k : Nat, k ≤ d.n ∧ i = .int .i64 k ∧ Counts wr w.heap.size d.n (fun j => cnt d.I j d.m + cnt d.X j d.x) ∧ (∀ j, j < k → ok5 d H j) ∧ Below w.heap.size w wr) (fun i _ => d.n - (intOf i).toNat)
      case atStart => exact ⟨0, by omega, rfl, unhide HC, fun j hj => by omega, unhide HB⟩
      case round =>
        clear HC HB hcl
        obtain ⟨k, hk, rfl, hct, hall, hb⟩ := hrel
        have HALL := hide hall
        clear hall
        by_cases hkn : k < d.n
        case neg =>
          have hkn' : k = d.n := by omega
          subst hkn'
          have HT := hide (tells_yes (p := D5 d H) (fun i hi => unhide HALL i hi))
          have HB := hide hb
          clear hb hct
          go_wp2
          go_ret
          exact ⟨by rw [unhide HT]; rfl, unhide HB⟩
        obtain ⟨b, off, rfl, hbl, hcs⟩ := (unhide HD).rows.log.resolve_left (by omega)
        obtain ⟨e0, e1, e2, e3, e4, e5, e6, e7, e8, e9, e10⟩ := (hcs k hkn).keep (fun q => hb.cell (p := ⟨b, q, none⟩) hbl)
        have r0 := hct.cell hkn
        have hsl := hct.lt
        have hD := (unhide HD).below hb
        have HB := hide hb
        have HCT := hide hct
        have hcl := hD.lt
        have c1 := hD.c1
        have hwz := hb.size
        have HDr := hide hD
        clear hcs hb hct hD
        by_cases ht : (d.L k).turn = 0
        · have HO : Hid (ok5 d H k) := hide (fun h => absurd ht h)
          rw [ht] at e10
          clear ht
          go_wp2
          go_roundw
          case rel => exact ⟨k + 1, by omega, by go_num, (unhide HCT).below ((Below.refl _ _).alloc (Nat.le_refl _) _), fun j hj => (by by_cases e : j = k; exact e ▸ unhide HO; exact unhide HALL j (by omega)), (unhide HB).alloc (unhide HB).size _⟩
          case measure => simp [intOf]; omega
        have ht' : ((d.L k).turn == 0) = false := by simp [ht]
        by_cases hc1 : cnt d.I k d.m + cnt d.X k d.x = 1
        case neg =>
          have HT := hide (not_D5 (H := H) hkn (fun h => hc1 (h ht).1))
          have hc1' : (((cnt d.I k d.m + cnt d.X k d.x : Nat) : Int) != 1) = true := by simp; omega
          generalize cnt d.I k d.m + cnt d.X k d.x = cc at r0 hc1' hc1
          clear ht hc1
          go_wp2
          go_ret
          exact ⟨by rw [unhide HT]; rfl, (unhide HB).alloc (unhide HB).size _⟩
        have HC1 := hide hc1
        rw [hc1] at r0
        have HTN := hide ht
        have HS' := hide (unhide HH k hkn ht)
        have hc1' : (((1 : Nat) : Int) != 1) = false := rfl
        clear hc1 ht
        obtain ⟨W, hW⟩ : ∃ W, W = wr.alloc (.cells #[.int .i64 (d.L k).key.kind, .int .i64 (d.L k).key.num, .float .f64 (d.L k).key.flt, .string (d.L k).key.str, .int .i64 (d.L k).key.ref, .int .i64 (d.L k).val.kind, .int .i64 (d.L k).val.num, .float .f64 (d.L k).val.flt, .string (d.L k).val.str, .int .i64 (d.L k).val.ref, .int .i64 (d.L k).turn] 136) := ⟨_, rfl⟩
        have HBW : Hid (Below wr.heap.size wr W) := hide (by rw [hW]; exact (Below.refl _ _).alloc (Nat.le_refl _) _)
        have y0 : W.cell? ⟨wr.heap.size, 0, none⟩ = some (.int .i64 (d.L k).key.kind) := by rw [hW]; simp [go_sem]
        have y1 : W.cell? ⟨wr.heap.size, 1, none⟩ = some (.int .i64 (d.L k).key.num) := by rw [hW]; simp [go_sem]
        have hzW : wr.heap.size < W.heap.size := by rw [hW]; simp
        go_wp2_with fail
        rw [← hW]
        clear hW
        refine (l1place_any c o (some ⟨b, off, none⟩) lc ia ic xa xc d (d.L k).key (H k) _ ((unhide HDr).below (unhide HBW)) (unhide HS) (unhide H3) (unhide H4) (unhide HS')).mono ?_
        rintro e w2 ⟨rfl, hb2⟩
        have z0 := (hb2.cell (p := ⟨wr.heap.size, 0, none⟩) hzW).trans y0
        have z1 := (hb2.cell (p := ⟨wr.heap.size, 1, none⟩) hzW).trans y1
        have hb3 : Below wr.heap.size wr w2 := (unhide HBW).trans (hb2.mono (unhide HBW).size)
        have hzw2 : wr.heap.size < w2.heap.size := Nat.lt_of_lt_of_le hzW hb2.size
        have HCT2 := hide ((unhide HCT).below hb3)
        have HB2 := hide ((unhide HB).trans (hb3.mono hwz))
        have c1' := (hb3.cell (p := ⟨c, o + 1, none⟩) hcl).trans c1
        have hcl2 : c < w2.heap.size := Nat.lt_of_lt_of_le hcl hb3.size
        clear hb2 hb3 c1 y0 y1 e0 e1 e2 e3 e4 e5 e6 e7 e8 e9 e10 r0
        by_cases hp : placeI d (d.L k).key (H k) = (k : Int)
        case neg =>
          have HT := hide (not_D5 (H := H) hkn (fun h => hp (h (unhide HTN)).2.1))
          have hp' : (placeI d (d.L k).key (H k) != (k : Int)) = true := by simp [hp]
          generalize placeI d (d.L k).key (H k) = pl at hp'
          clear hp
          go_wp2
          go_ret
          exact ⟨by rw [unhide HT]; rfl, unhide HB2⟩
        rw [hp]
        have HP := hide hp
        clear hp
        by_cases hk2 : (d.L k).key.kind = 2
        case neg =>
          have HO : Hid (ok5 d H k) := hide (fun _ => ⟨unhide HC1, unhide HP, fun h => hk2 h.1⟩)
          have hk2' : ((d.L k).key.kind == 2) = false := by simp [hk2]
          clear hk2
          go_wp2_with fail
          go_quiet (fail)
          go_wp2
          go_roundw
          case rel => exact ⟨k + 1, by omega, by go_num, (unhide HCT2), fun j hj => (by by_cases e : j = k; exact e ▸ unhide HO; exact unhide HALL j (by omega)), below_drewN' (unhide HB2) _⟩
          case measure => simp [intOf]; omega
        have hk2' : ((d.L k).key.kind == 2) = true := by simp [hk2]
        have hw : IntKind.i64.wrap ((d.m : Int) + 1) = (d.m : Int) + 1 := by rw [IntKind.wrap_i64]; omega
        by_cases hnm : (d.L k).key.num = (d.m : Int) + 1
        · have HT := hide (not_D5 (H := H) hkn (fun h => (h (unhide HTN)).2.2 ⟨hk2, hnm⟩))
          have hnm' : ((d.L k).key.num == (d.m : Int) + 1) = true := by simp [hnm]
          clear hk2 hnm
          go_wp2_with fail
          go_quiet (fail)
          go_wp2
          go_ret
          exact ⟨by rw [unhide HT]; rfl, below_drewN' (unhide HB2) _⟩
        · have HO : Hid (ok5 d H k) := hide (fun _ => ⟨unhide HC1, unhide HP, fun h => hnm h.2⟩)
          have hnm' : ((d.L k).key.num == (d.m : Int) + 1) = false := by simp [hnm]
          clear hk2 hnm
          go_wp2_with fail
          go_quiet (fail)
          go_wp2
          go_roundw
          case rel => exact ⟨k + 1, by omega, by go_num, (unhide HCT2), fun j hj => (by by_cases e : j = k; exact e ▸ unhide HO; exact unhide HALL j (by omega)), below_drewN' (unhide HB2) _⟩
          case measure => simp [intOf]; omega
end Go.Proofs.YtfceeijdmilieaaGreat
namespace Go.Proofs.YtfceeijdmilieaaGreat
open Go.RowKit
set_option linter.unusedVariables false
attribute [local go_sem] run_store_float run_equalIn_float

open Classical in
noncomputable def dictOk (d : Dc) (H : Nat → Nat) : Int :=
  if D1 d then if D2 d then if D3 d then if D4 d then if D5 d H then 0 else 5 else 4 else 3 else 2 else 1
theorem dictOk1 {d : Dc} {H : Nat → Nat} (h : ¬ D1 d) : dictOk d H = 1 := if_neg h
theorem dictOk2 {d : Dc} {H : Nat → Nat} (h1 : D1 d) (h : ¬ D2 d) : dictOk d H = 2 := by unfold dictOk; rw [if_pos h1, if_neg h]
theorem dictOk3 {d : Dc} {H : Nat → Nat} (h1 : D1 d) (h2 : D2 d) (h : ¬ D3 d) : dictOk d H = 3 := by unfold dictOk; rw [if_pos h1, if_pos h2, if_neg h]
theorem dictOk4 {d : Dc} {H : Nat → Nat} (h1 : D1 d) (h2 : D2 d) (h3 : D3 d) (h : ¬ D4 d) : dictOk d H = 4 := by unfold dictOk; rw [if_pos h1, if_pos h2, if_pos h3, if_neg h]
theorem dictOk5 {d : Dc} {H : Nat → Nat} (h1 : D1 d) (h2 : D2 d) (h3 : D3 d) (h4 : D4 d) (h : ¬ D5 d H) : dictOk d H = 5 := by unfold dictOk; rw [if_pos h1, if_pos h2, if_pos h3, if_pos h4, if_neg h]
theorem dictOk0 {d : Dc} {H : Nat → Nat} (h1 : D1 d) (h2 : D2 d) (h3 : D3 d) (h4 : D4 d) (h : D5 d H) : dictOk d H = 0 := by unfold dictOk; rw [if_pos h1, if_pos h2, if_pos h3, if_pos h4, if_pos h]
/-- What a sound dict keeps. -/
structure Sound (d : Dc) (H : Nat → Nat) : Prop where
  d1 : D1 d
  d2 : D2 d
  d3 : D3 d
  d4 : D4 d
  d5 : D5 d H
theorem sound_of {d : Dc} {H : Nat → Nat} (h : dictOk d H = 0) : Sound d H := by
  unfold dictOk at h
  split at h
  · next h1 =>
    split at h
    · next h2 =>
      split at h
      · next h3 =>
        split at h
        · next h4 =>
          split at h
          · next h5 => exact ⟨h1, h2, h3, h4, h5⟩
          · cases h
        · cases h
      · cases h
    · cases h
  · cases h
theorem Sound.zero {d : Dc} {H : Nat → Nat} (h : Sound d H) : dictOk d H = 0 := dictOk0 h.d1 h.d2 h.d3 h.d4 h.d5

set_option maxRecDepth 100000 in
set_option maxHeartbeats 2000000 in
theorem specDictOk (la : Option Addr) (lc : Nat) (ia : Option Addr) (ic : Nat) (xa : Option Addr) (xc : Nat) (d : Dc) (H : Nat → Nat) (w : World) (hD : DAt w la ia xa d) (hS : Small d) (hH : ∀ i, i < d.n → keyB (d.L i).key = true → HsS (d.L i).key (H i)) :
    Calls Tryz.prog 25 #[Dv la lc ia ic xa xc d] w fun e w' => e = .returned (.int .i64 (dictOk d H)) ∧ Below w.heap.size w w' := by
  have HD := hide hD
  have HS := hide hS
  have HH := hide hH
  have hb0 : Below w.heap.size w (w.alloc (.cells #[.slice la d.n lc, .slice ia d.m ic, .slice xa d.x xc, .int .i64 d.used, .int .i64 d.live, .int .i64 d.turns] 49)) := (Below.refl _ _).alloc (Nat.le_refl _) _
  have HB0 := hide hb0
  clear hD hS hH hb0
  go_enter Tryz.func25, Tryz.ntmps25
  go_wp2_with fail
  refine (l1copy_any la lc ia ic xa xc d _ ((unhide HD).below (unhide HB0)) (unhide HS)).mono ?_
  rintro e w1 ⟨⟨c, v0, v1, v2, rfl, hceq, hown⟩, hb1⟩
  clear hceq
  obtain ⟨la', lc', ia', ic', xa', xc', rfl, rfl, rfl, hP⟩ := hown.ptr
  have HB1 := hide ((unhide HB0).trans (hb1.mono (unhide HB0).size))
  have HP1 := hide hP
  clear hb1 hown hP
  go_wp2_with fail
  refine (l1sizes_any c 0 la' lc' ia' ic' xa' xc' d _ (unhide HP1) (unhide HS)).mono ?_
  rintro e w2 ⟨rfl, hb2⟩
  have HB2 := hide ((unhide HB1).trans (hb2.mono (unhide HB1).size))
  have HP2 := hide ((unhide HP1).below hb2)
  clear hb2
  by_cases h1 : D1 d
  case neg =>
    rw [tells_no h1]
    have HT := hide (dictOk1 (H := H) h1)
    clear h1
    go_wp2
    go_ret
    exact ⟨by rw [unhide HT]; rfl, unhide HB2⟩
  rw [tells_yes h1]
  have H1 := hide h1
  clear h1
  go_wp2_with fail
  refine (l1logok_any c 0 la' lc' ia' ic' xa' xc' d _ (unhide HP2) (unhide HS)).mono ?_
  rintro e w3 ⟨rfl, hb3⟩
  have HB3 := hide ((unhide HB2).trans (hb3.mono (unhide HB2).size))
  have HP3 := hide ((unhide HP2).below hb3)
  clear hb3
  by_cases h2 : D2 d
  case neg =>
    rw [tells_no h2]
    have HT := hide (dictOk2 (H := H) (unhide H1) h2)
    clear h2
    go_wp2
    go_ret
    exact ⟨by rw [unhide HT]; rfl, unhide HB3⟩
  rw [tells_yes h2]
  have H2 := hide h2
  clear h2
  go_wp2_with fail
  refine (l1intsok_any c 0 la' lc' ia' ic' xa' xc' d _ (unhide HP3) (unhide HS)).mono ?_
  rintro e w4 ⟨rfl, hb4⟩
  have HB4 := hide ((unhide HB3).trans (hb4.mono (unhide HB3).size))
  have HP4 := hide ((unhide HP3).below hb4)
  clear hb4
  by_cases h3 : D3 d
  case neg =>
    rw [tells_no h3]
    have HT := hide (dictOk3 (H := H) (unhide H1) (unhide H2) h3)
    clear h3
    go_wp2
    go_ret
    exact ⟨by rw [unhide HT]; rfl, unhide HB4⟩
  rw [tells_yes h3]
  have H3 := hide h3
  clear h3
  go_wp2_with fail
  refine (l1indexok_any c 0 la' lc' ia' ic' xa' xc' d _ (unhide HP4) (unhide HS) (unhide H2)).mono ?_
  rintro e w5 ⟨rfl, hb5⟩
  have HB5 := hide ((unhide HB4).trans (hb5.mono (unhide HB4).size))
  have HP5 := hide ((unhide HP4).below hb5)
  clear hb5
  by_cases h4 : D4 d
  case neg =>
    rw [tells_no h4]
    have HT := hide (dictOk4 (H := H) (unhide H1) (unhide H2) (unhide H3) h4)
    clear h4
    go_wp2
    go_ret
    exact ⟨by rw [unhide HT]; rfl, unhide HB5⟩
  rw [tells_yes h4]
  have H4 := hide h4
  clear h4
  go_wp2_with fail
  refine (l1found_any c 0 la' lc' ia' ic' xa' xc' d H _ (unhide HP5) (unhide HS) (unhide H3) (unhide H4) (fun i hi ht => unhide HH i hi ((unhide H2).pos hi ht).2)).mono ?_
  rintro e w6 ⟨rfl, hb6⟩
  have HB6 := hide ((unhide HB5).trans (hb6.mono (unhide HB5).size))
  clear hb6
  by_cases h5 : D5 d H
  · rw [tells_yes h5]
    have HT := hide (dictOk0 (unhide H1) (unhide H2) (unhide H3) (unhide H4) h5)
    clear h5
    go_wp2
    go_ret
    exact ⟨by rw [unhide HT]; rfl, unhide HB6⟩
  · rw [tells_no h5]
    have HT := hide (dictOk5 (unhide H1) (unhide H2) (unhide H3) (unhide H4) h5)
    clear h5
    go_wp2
    go_ret
    exact ⟨by rw [unhide HT]; rfl, unhide HB6⟩
end Go.Proofs.YtfceeijdmilieaaGreat
