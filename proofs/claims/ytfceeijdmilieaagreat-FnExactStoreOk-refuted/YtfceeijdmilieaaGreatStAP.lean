/-
  StA.
-/
import Derived.Test.YtfceeijdmilieaaGreatDkMP
import Derived.Test.YtfceeijdmilieaaGreatBr11
namespace Go.Proofs.YtfceeijdmilieaaGreat
open Go.RowKit
set_option linter.unusedVariables false
attribute [local go_sem] run_store_float run_equalIn_float

/-- A table. -/
structure Tb where
  shape : Int
  nv : Nat
  V : Nat → Vl
  d : Dc
/-- A site. -/
structure Si where
  key : ByteArray
  shape : Int
  place : Int
  hits : Int
  misses : Int
/-- A store. -/
structure Sto where
  nf : Nat
  F : Nat → Shp
  nt : Nat
  T : Nat → Tb
  ns : Nat
  S : Nat → Si
abbrev VV (v : Vl) : Value := V v.kind v.num v.flt v.str v.ref
abbrev SV (s : Si) : Value := .agg #[.string s.key, .int .i64 s.shape, .int .i64 s.place, .int .i64 s.hits, .int .i64 s.misses]
/-- The value of a table, its rows at addresses. -/
abbrev TV (va : Option Addr) (vc : Nat) (la : Option Addr) (lc : Nat) (ia : Option Addr) (ic : Nat) (xa : Option Addr) (xc : Nat) (t : Tb) : Value := .agg #[.int .i64 t.shape, .slice va t.nv vc, .slice la t.d.n lc, .slice ia t.d.m ic, .slice xa t.d.x xc, .int .i64 t.d.used, .int .i64 t.d.live, .int .i64 t.d.turns]
abbrev StV (fa : Option Addr) (fc : Nat) (ta : Option Addr) (tc : Nat) (sa : Option Addr) (sc : Nat) (s : Sto) : Value := .agg #[.slice fa s.nf fc, .slice ta s.nt tc, .slice sa s.ns sc]

structure VCell (w : World) (b o : Nat) (p : Vl) : Prop where
  c0 : w.cell? ⟨b, o, none⟩ = some (.int .i64 p.kind)
  c1 : w.cell? ⟨b, o + 1, none⟩ = some (.int .i64 p.num)
  c2 : w.cell? ⟨b, o + 2, none⟩ = some (.float .f64 p.flt)
  c3 : w.cell? ⟨b, o + 3, none⟩ = some (.string p.str)
  c4 : w.cell? ⟨b, o + 4, none⟩ = some (.int .i64 p.ref)
theorem VCell.keep {w w' : World} {b o : Nat} {p : Vl} (h : VCell w b o p) (e : ∀ q, w'.cell? ⟨b, q, none⟩ = w.cell? ⟨b, q, none⟩) : VCell w' b o p :=
  ⟨(e _).trans h.c0, (e _).trans h.c1, (e _).trans h.c2, (e _).trans h.c3, (e _).trans h.c4⟩
theorem VCell.keepAt {w w' : World} {b o : Nat} {p : Vl} (h : VCell w b o p) (e : ∀ j, j < 5 → w'.cell? ⟨b, o + j, none⟩ = w.cell? ⟨b, o + j, none⟩) : VCell w' b o p :=
  ⟨(e 0 (by omega)).trans h.c0, (e 1 (by omega)).trans h.c1, (e 2 (by omega)).trans h.c2, (e 3 (by omega)).trans h.c3, (e 4 (by omega)).trans h.c4⟩
def VAt (w : World) (a : Option Addr) (n : Nat) (f : Nat → Vl) : Prop :=
  n = 0 ∨ ∃ b off, a = some ⟨b, off, none⟩ ∧ b < w.heap.size ∧ ∀ i, i < n → VCell w b (off + i * 5) (f i)
theorem VAt.below {w w' : World} {B : Nat} {a : Option Addr} {n : Nat} {f : Nat → Vl} (h : VAt w a n f) (hb : Below B w w') (hB : B = w.heap.size) : VAt w' a n f := by
  subst hB
  rcases h with h | ⟨b, off, e, hlt, hc⟩
  · exact .inl h
  · exact .inr ⟨b, off, e, Nat.lt_of_lt_of_le hlt hb.size, fun i hi => (hc i hi).keep (fun q => hb.cell (p := ⟨b, q, none⟩) hlt)⟩
structure SCl (w : World) (b o : Nat) (p : Si) : Prop where
  c0 : w.cell? ⟨b, o, none⟩ = some (.string p.key)
  c1 : w.cell? ⟨b, o + 1, none⟩ = some (.int .i64 p.shape)
  c2 : w.cell? ⟨b, o + 2, none⟩ = some (.int .i64 p.place)
  c3 : w.cell? ⟨b, o + 3, none⟩ = some (.int .i64 p.hits)
  c4 : w.cell? ⟨b, o + 4, none⟩ = some (.int .i64 p.misses)
theorem SCl.keep {w w' : World} {b o : Nat} {p : Si} (h : SCl w b o p) (e : ∀ q, w'.cell? ⟨b, q, none⟩ = w.cell? ⟨b, q, none⟩) : SCl w' b o p :=
  ⟨(e _).trans h.c0, (e _).trans h.c1, (e _).trans h.c2, (e _).trans h.c3, (e _).trans h.c4⟩
theorem SCl.keepAt {w w' : World} {b o : Nat} {p : Si} (h : SCl w b o p) (e : ∀ j, j < 5 → w'.cell? ⟨b, o + j, none⟩ = w.cell? ⟨b, o + j, none⟩) : SCl w' b o p :=
  ⟨(e 0 (by omega)).trans h.c0, (e 1 (by omega)).trans h.c1, (e 2 (by omega)).trans h.c2, (e 3 (by omega)).trans h.c3, (e 4 (by omega)).trans h.c4⟩
def SiAt (w : World) (a : Option Addr) (n : Nat) (f : Nat → Si) : Prop :=
  n = 0 ∨ ∃ b off, a = some ⟨b, off, none⟩ ∧ b < w.heap.size ∧ ∀ i, i < n → SCl w b (off + i * 5) (f i)
theorem SiAt.below {w w' : World} {B : Nat} {a : Option Addr} {n : Nat} {f : Nat → Si} (h : SiAt w a n f) (hb : Below B w w') (hB : B = w.heap.size) : SiAt w' a n f := by
  subst hB
  rcases h with h | ⟨b, off, e, hlt, hc⟩
  · exact .inl h
  · exact .inr ⟨b, off, e, Nat.lt_of_lt_of_le hlt hb.size, fun i hi => (hc i hi).keep (fun q => hb.cell (p := ⟨b, q, none⟩) hlt)⟩

/-- The cells of a table. -/
structure TCell (w : World) (b o : Nat) (va : Option Addr) (vc : Nat) (la : Option Addr) (lc : Nat) (ia : Option Addr) (ic : Nat) (xa : Option Addr) (xc : Nat) (t : Tb) : Prop where
  c0 : w.cell? ⟨b, o, none⟩ = some (.int .i64 t.shape)
  c1 : w.cell? ⟨b, o + 1, none⟩ = some (.slice va t.nv vc)
  c2 : w.cell? ⟨b, o + 2, none⟩ = some (.slice la t.d.n lc)
  c3 : w.cell? ⟨b, o + 3, none⟩ = some (.slice ia t.d.m ic)
  c4 : w.cell? ⟨b, o + 4, none⟩ = some (.slice xa t.d.x xc)
  c5 : w.cell? ⟨b, o + 5, none⟩ = some (.int .i64 t.d.used)
  c6 : w.cell? ⟨b, o + 6, none⟩ = some (.int .i64 t.d.live)
  c7 : w.cell? ⟨b, o + 7, none⟩ = some (.int .i64 t.d.turns)
theorem TCell.keepAt {w w' : World} {b o : Nat} {va la ia xa : Option Addr} {vc lc ic xc : Nat} {t : Tb} (h : TCell w b o va vc la lc ia ic xa xc t) (e : ∀ j, j < 8 → w'.cell? ⟨b, o + j, none⟩ = w.cell? ⟨b, o + j, none⟩) : TCell w' b o va vc la lc ia ic xa xc t :=
  ⟨(e 0 (by omega)).trans h.c0, (e 1 (by omega)).trans h.c1, (e 2 (by omega)).trans h.c2, (e 3 (by omega)).trans h.c3, (e 4 (by omega)).trans h.c4, (e 5 (by omega)).trans h.c5, (e 6 (by omega)).trans h.c6, (e 7 (by omega)).trans h.c7⟩
/-- A table with its rows. -/
def TbAt (w : World) (b o : Nat) (t : Tb) : Prop :=
  ∃ va vc la lc ia ic xa xc, TCell w b o va vc la lc ia ic xa xc t ∧ VAt w va t.nv t.V ∧ DAt w la ia xa t.d
theorem TbAt.below {w w' : World} {b o : Nat} {t : Tb} (h : TbAt w b o t) (hb : Below w.heap.size w w') (hl : b < w.heap.size) : TbAt w' b o t := by
  obtain ⟨va, vc, la, lc, ia, ic, xa, xc, h1, h2, h3⟩ := h
  exact ⟨va, vc, la, lc, ia, ic, xa, xc, h1.keepAt (fun q _ => hb.cell (p := ⟨b, o + q, none⟩) hl), h2.below hb rfl, h3.below hb⟩
def TAt (w : World) (a : Option Addr) (n : Nat) (f : Nat → Tb) : Prop :=
  n = 0 ∨ ∃ b off, a = some ⟨b, off, none⟩ ∧ b < w.heap.size ∧ ∀ i, i < n → TbAt w b (off + i * 8) (f i)
theorem TAt.below {w w' : World} {B : Nat} {a : Option Addr} {n : Nat} {f : Nat → Tb} (h : TAt w a n f) (hb : Below B w w') (hB : B = w.heap.size) : TAt w' a n f := by
  subst hB
  rcases h with h | ⟨b, off, e, hlt, hc⟩
  · exact .inl h
  · exact .inr ⟨b, off, e, Nat.lt_of_lt_of_le hlt hb.size, fun i hi => (hc i hi).below hb hlt⟩
/-- The rows of a store. -/
structure StAt (w : World) (fa ta sa : Option Addr) (s : Sto) : Prop where
  fo : ShAt w fa s.nf s.F
  ta : TAt w ta s.nt s.T
  si : SiAt w sa s.ns s.S
theorem StAt.below {w w' : World} {fa ta sa : Option Addr} {s : Sto} (h : StAt w fa ta sa s) (hb : Below w.heap.size w w') : StAt w' fa ta sa s := ⟨h.fo.below hb rfl, h.ta.below hb rfl, h.si.below hb rfl⟩

/-- Lengths of what comes in. -/
structure TLens (t : Tb) : Prop where
  n : t.nv ≤ maxLen
  s : ∀ i, i < t.nv → (t.V i).str.size ≤ maxLen
  d : Lens t.d
structure SLens (s : Sto) : Prop where
  nf : s.nf ≤ maxLen
  fk : ∀ i, i < s.nf → (s.F i).key.size ≤ maxLen
  nt : s.nt ≤ maxLen
  ts : ∀ i, i < s.nt → TLens (s.T i)
  ns : s.ns ≤ maxLen
  sk : ∀ i, i < s.ns → (s.S i).key.size ≤ maxLen
/-- Weights. -/
def dw (d : Dc) : Nat := d.n + d.m + d.x
def tw (t : Tb) : Nat := t.nv + dw t.d + 1
def twTo (f : Nat → Tb) : Nat → Nat
  | 0 => 0
  | k + 1 => twTo f k + tw (f k)
theorem twTo_le (f : Nat → Tb) {k n : Nat} (h : k ≤ n) : twTo f k ≤ twTo f n := by
  induction n with
  | zero => rw [show k = 0 by omega]; exact Nat.le_refl _
  | succ n ih =>
    by_cases e : k = n + 1
    · subst e; exact Nat.le_refl _
    · have := ih (by omega)
      show _ ≤ twTo f n + tw (f n)
      omega
theorem twTo_at (f : Nat → Tb) {k n : Nat} (h : k < n) : twTo f k + tw (f k) ≤ twTo f n := twTo_le f (k := k + 1) h
theorem twTo_n (f : Nat → Tb) (n : Nat) : n ≤ twTo f n := by
  induction n with
  | zero => exact Nat.zero_le _
  | succ n ih => show n + 1 ≤ twTo f n + tw (f n); unfold tw; omega

set_option maxRecDepth 100000 in
set_option maxHeartbeats 1000000 in
theorem szPairS_w (a : Option Addr) (n cap : Nat) (f : Nat → Pr) (left : Int) (w : World) (hA : PAt w a n f) (hn : n ≤ maxLen) (hs : Strs n f) (h0 : 0 ≤ left) (h1 : left ≤ 1048576) :
    Calls Tryz.prog 65 #[.slice a n cap, .int .i64 left] w fun e w' => (∃ r : Int, e = .returned (.int .i64 r) ∧ (r = -1 ∨ 0 ≤ r ∧ r + n ≤ left)) ∧ Below w.heap.size w w' := by
  unfold maxLen at hn
  have HA := hide hA
  have HS := hide hs
  clear hA hs
  by_cases h : left < n
  · go_enter Tryz.func65, Tryz.ntmps65
    go_wp2
    go_ret
    exact ⟨⟨-1, by simp, .inl rfl⟩, Below.refl _ _⟩
  go_enter Tryz.func65, Tryz.ntmps65
  go_wp2
  go_loopw [1, 5] (fun l i wr => ∃ (k : Nat) (lf : Int), k ≤ n ∧ i = .int .i64 k ∧ l = .int .i64 lf ∧ 0 ≤ lf ∧ lf + n ≤ left ∧ Below w.heap.size w wr) (fun _ i _ => n - (intOf i).toNat)
  case atStart => exact ⟨0, left - n, by omega, rfl, by simp, by omega, by omega, Below.refl _ _⟩
  case round =>
    obtain ⟨k, lf, hk, rfl, rfl, hl0, hl1, hb⟩ := hrel
    by_cases hkn : k < n
    · obtain ⟨b, off, rfl, hbl, hcs⟩ := (unhide HA).resolve_left (by omega)
      obtain ⟨e0, e1, e2, e3, e4, e5, e6, e7, e8, e9, e10⟩ := (hcs k hkn).keep (fun q => hb.cell (p := ⟨b, q, none⟩) hbl)
      have HB := hide hb
      clear hcs hb
      go_wp2_with fail
      refine (szPair_any (f k) lf _ hl0 (by omega) (unhide HS k hkn).1 (unhide HS k hkn).2).mono ?_
      rintro e w1 ⟨⟨r, rfl, hr⟩, hb1⟩
      have HB1 := hide ((unhide HB).trans (hb1.mono (unhide HB).size))
      clear hb1 e0 e1 e2 e3 e4 e5 e6 e7 e8 e9 e10
      rcases hr with rfl | ⟨g0, g1⟩
      · go_wp2_with fail
        go_ret
        exact ⟨⟨-1, by simp, .inl rfl⟩, unhide HB1⟩
      · go_wp2_with fail
        go_roundw
        case rel => exact ⟨k + 1, r, by omega, by go_num, rfl, g0, by omega, unhide HB1⟩
        case measure => simp [intOf]; omega
    · have hkn' : k = n := by omega
      subst hkn'
      have HB := hide hb
      clear hb
      go_wp2_with fail
      go_ret
      exact ⟨⟨lf, by simp, .inr ⟨hl0, hl1⟩⟩, unhide HB⟩

set_option maxHeartbeats 1000000 in
theorem szIntS_w (a : Option Addr) (n cap : Nat) (left : Int) (w : World) (hn : n ≤ maxLen) (h0 : 0 ≤ left) (h1 : left ≤ 1048576) :
    Calls Tryz.prog 66 #[.slice a n cap, .int .i64 left] w fun e w' => (∃ r : Int, e = .returned (.int .i64 r) ∧ (r = -1 ∨ 0 ≤ r ∧ r + n ≤ left)) ∧ w' = w := by
  unfold maxLen at hn
  by_cases h : left < n
  · go_enter Tryz.func66, Tryz.ntmps66
    go_wp2
    go_ret
    exact ⟨⟨-1, by simp, .inl rfl⟩, rfl⟩
  · go_enter Tryz.func66, Tryz.ntmps66
    go_wp2
    go_ret
    have hh : 0 ≤ left - (n : Int) ∧ left - (n : Int) + n ≤ left := by omega
    exact ⟨⟨left - (n : Int), by simp, .inr hh⟩, rfl⟩

set_option maxRecDepth 100000 in
set_option maxHeartbeats 1000000 in
theorem szDict_w (la : Option Addr) (lc : Nat) (ia : Option Addr) (ic : Nat) (xa : Option Addr) (xc : Nat) (d : Dc) (left : Int) (w : World) (hD : DAt w la ia xa d) (hL : Lens d) (h0 : 0 ≤ left) (h1 : left ≤ 1048576) :
    Calls Tryz.prog 41 #[Dv la lc ia ic xa xc d, .int .i64 left] w fun e w' => (∃ r : Int, e = .returned (.int .i64 r) ∧ (r = -1 ∨ 0 ≤ r ∧ r + dw d ≤ left)) ∧ Below w.heap.size w w' := by
  have HD := hide hD
  have HL := hide hL
  clear hD hL
  have hb0 : Below w.heap.size w (w.alloc (.cells #[.slice la d.n lc, .slice ia d.m ic, .slice xa d.x xc, .int .i64 d.used, .int .i64 d.live, .int .i64 d.turns] 73)) := (Below.refl _ _).alloc (Nat.le_refl _) _
  have HB0 := hide hb0
  clear hb0
  go_enter Tryz.func41, Tryz.ntmps41
  go_wp2_with fail
  refine (szPairS_w la d.n lc d.L left _ ((unhide HD).below (unhide HB0)).log (unhide HL).n (unhide HL).s h0 h1).mono ?_
  rintro e w1 ⟨⟨r, rfl, hr⟩, hb1⟩
  obtain ⟨hc1, hf1⟩ := bcell hb1
  have q1 : w1.cell? ⟨w.heap.size, 1, none⟩ = some (.slice ia d.m ic) := by rw [hc1 _ _ (by simp)]; simp [go_sem]
  have q2 : w1.cell? ⟨w.heap.size, 2, none⟩ = some (.slice xa d.x xc) := by rw [hc1 _ _ (by simp)]; simp [go_sem]
  have HB1 := hide ((unhide HB0).trans (hb1.mono (unhide HB0).size))
  clear hb1 hc1 hf1
  rcases hr with rfl | ⟨g0, g1⟩
  · go_wp2_with fail
    go_ret
    exact ⟨⟨-1, rfl, .inl rfl⟩, unhide HB1⟩
  go_wp2_with fail
  refine (szIntS_w ia d.m ic r _ (unhide HL).m g0 (by omega)).mono ?_
  rintro e w2 ⟨⟨r2, rfl, hr2⟩, rfl⟩
  rcases hr2 with rfl | ⟨g3, g4⟩
  · go_wp2_with fail
    go_ret
    exact ⟨⟨-1, rfl, .inl rfl⟩, unhide HB1⟩
  go_wp2_with fail
  refine (szIntS_w xa d.x xc r2 _ (unhide HL).x g3 (by omega)).mono ?_
  rintro e w3 ⟨⟨r3, rfl, hr3⟩, rfl⟩
  rcases hr3 with rfl | ⟨g6, g7⟩
  · go_wp2_with fail
    go_ret
    exact ⟨⟨-1, rfl, .inl rfl⟩, unhide HB1⟩
  have hsm : r3 + dw d ≤ left := by unfold dw; omega
  have HSM := hide hsm
  clear hsm
  go_wp2_with fail
  go_ret
  exact ⟨⟨r3, rfl, .inr ⟨g6, unhide HSM⟩⟩, unhide HB1⟩

set_option maxRecDepth 100000 in
set_option maxHeartbeats 1000000 in
theorem szValueS_w (a : Option Addr) (n cap : Nat) (f : Nat → Vl) (left : Int) (w : World) (hA : VAt w a n f) (hn : n ≤ maxLen) (hs : ∀ i, i < n → (f i).str.size ≤ maxLen) (h0 : 0 ≤ left) (h1 : left ≤ 1048576) :
    Calls Tryz.prog 40 #[.slice a n cap, .int .i64 left] w fun e w' => (∃ r : Int, e = .returned (.int .i64 r) ∧ (r = -1 ∨ 0 ≤ r ∧ r + n ≤ left)) ∧ Below w.heap.size w w' := by
  unfold maxLen at hn
  have HA := hide hA
  have HS := hide hs
  clear hA hs
  by_cases h : left < n
  · go_enter Tryz.func40, Tryz.ntmps40
    go_wp2
    go_ret
    exact ⟨⟨-1, by simp, .inl rfl⟩, Below.refl _ _⟩
  go_enter Tryz.func40, Tryz.ntmps40
  go_wp2
  go_loopw [1, 5] (fun l i wr => ∃ (k : Nat) (lf : Int), k ≤ n ∧ i = .int .i64 k ∧ l = .int .i64 lf ∧ 0 ≤ lf ∧ lf + n ≤ left ∧ Below w.heap.size w wr) (fun _ i _ => n - (intOf i).toNat)
  case atStart => exact ⟨0, left - n, by omega, rfl, by simp, by omega, by omega, Below.refl _ _⟩
  case round =>
    obtain ⟨k, lf, hk, rfl, rfl, hl0, hl1, hb⟩ := hrel
    by_cases hkn : k < n
    · obtain ⟨b, off, rfl, hbl, hcs⟩ := (unhide HA).resolve_left (by omega)
      obtain ⟨e0, e1, e2, e3, e4⟩ := (hcs k hkn).keep (fun q => hb.cell (p := ⟨b, q, none⟩) hbl)
      have HB := hide hb
      clear hcs hb
      go_wp2_with fail
      refine (sz_any (f k).kind (f k).num (f k).flt (f k).str (f k).ref lf _ (unhide HS k hkn) hl0 (by omega)).mono ?_
      rintro e w1 ⟨rfl, hb1⟩
      have HB1 := hide ((unhide HB).trans (hb1.mono (unhide HB).size))
      clear hb1 e0 e1 e2 e3 e4
      by_cases hl : lf < (f k).str.size
      · rw [if_pos hl]
        clear hl
        go_wp2_with fail
        go_ret
        exact ⟨⟨-1, by simp, .inl rfl⟩, unhide HB1⟩
      · rw [if_neg hl]
        obtain ⟨r, hr⟩ : ∃ r, r = lf - ((f k).str.size : Int) := ⟨_, rfl⟩
        rw [← hr]
        have g0 : 0 ≤ r := by omega
        have g1 : r + n ≤ left := by omega
        clear hl hr
        go_wp2_with fail
        go_roundw
        case rel => exact ⟨k + 1, r, by omega, by go_num, rfl, g0, g1, unhide HB1⟩
        case measure => simp [intOf]; omega
    · have hkn' : k = n := by omega
      subst hkn'
      have HB := hide hb
      clear hb
      go_wp2_with fail
      go_ret
      exact ⟨⟨lf, by simp, .inr ⟨hl0, hl1⟩⟩, unhide HB⟩

set_option maxRecDepth 100000 in
set_option maxHeartbeats 1000000 in
theorem szTable_w (va : Option Addr) (vc : Nat) (la : Option Addr) (lc : Nat) (ia : Option Addr) (ic : Nat) (xa : Option Addr) (xc : Nat) (t : Tb) (left : Int) (w : World) (hV : VAt w va t.nv t.V) (hD : DAt w la ia xa t.d) (hL : TLens t) (h0 : 0 ≤ left) (h1 : left ≤ 1048576) :
    Calls Tryz.prog 23 #[TV va vc la lc ia ic xa xc t, .int .i64 left] w fun e w' => (∃ r : Int, e = .returned (.int .i64 r) ∧ (r = -1 ∨ 0 ≤ r ∧ r + tw t ≤ left + 1)) ∧ Below w.heap.size w w' := by
  have HV := hide hV
  have HD := hide hD
  have HL := hide hL
  clear hV hD hL
  have hb0 : Below w.heap.size w (w.alloc (.cells #[.int .i64 t.shape, .slice va t.nv vc, .slice la t.d.n lc, .slice ia t.d.m ic, .slice xa t.d.x xc, .int .i64 t.d.used, .int .i64 t.d.live, .int .i64 t.d.turns] 75)) := (Below.refl _ _).alloc (Nat.le_refl _) _
  have HB0 := hide hb0
  clear hb0
  go_enter Tryz.func23, Tryz.ntmps23
  go_wp2_with fail
  refine (szValueS_w va t.nv vc t.V left _ ((unhide HV).below (unhide HB0) rfl) (unhide HL).n (unhide HL).s h0 h1).mono ?_
  rintro e w1 ⟨⟨r, rfl, hr⟩, hb1⟩
  obtain ⟨hc1, hf1⟩ := bcell hb1
  have q2 : w1.cell? ⟨w.heap.size, 2, none⟩ = some (.slice la t.d.n lc) := by rw [hc1 _ _ (by simp)]; simp [go_sem]
  have q3 : w1.cell? ⟨w.heap.size, 3, none⟩ = some (.slice ia t.d.m ic) := by rw [hc1 _ _ (by simp)]; simp [go_sem]
  have q4 : w1.cell? ⟨w.heap.size, 4, none⟩ = some (.slice xa t.d.x xc) := by rw [hc1 _ _ (by simp)]; simp [go_sem]
  have q5 : w1.cell? ⟨w.heap.size, 5, none⟩ = some (.int .i64 t.d.used) := by rw [hc1 _ _ (by simp)]; simp [go_sem]
  have q6 : w1.cell? ⟨w.heap.size, 6, none⟩ = some (.int .i64 t.d.live) := by rw [hc1 _ _ (by simp)]; simp [go_sem]
  have q7 : w1.cell? ⟨w.heap.size, 7, none⟩ = some (.int .i64 t.d.turns) := by rw [hc1 _ _ (by simp)]; simp [go_sem]
  have HB1 := hide ((unhide HB0).trans (hb1.mono (unhide HB0).size))
  clear hb1 hc1 hf1
  rcases hr with rfl | ⟨g0, g1⟩
  · clear q2 q3 q4 q5 q6 q7
    go_wp2_with fail
    go_ret
    exact ⟨⟨-1, rfl, .inl rfl⟩, unhide HB1⟩
  go_wp2_with fail
  refine (szDict_w la lc ia ic xa xc t.d r _ ((unhide HD).below (unhide HB1)) (unhide HL).d g0 (by omega)).mono ?_
  rintro e w2 ⟨⟨r2, rfl, hr2⟩, hb2⟩
  have HB2 := hide ((unhide HB1).trans (hb2.mono (unhide HB1).size))
  clear hb2 q2 q3 q4 q5 q6 q7
  rcases hr2 with rfl | ⟨g2, g3⟩
  · go_wp2_with fail
    go_ret
    exact ⟨⟨-1, rfl, .inl rfl⟩, unhide HB2⟩
  have hsm : r2 + tw t ≤ left + 1 := by unfold tw; omega
  have HSM := hide hsm
  clear hsm
  go_wp2_with fail
  go_ret
  exact ⟨⟨r2, rfl, .inr ⟨g2, unhide HSM⟩⟩, unhide HB2⟩

set_option maxRecDepth 100000 in
set_option maxHeartbeats 1000000 in
theorem szTableS_w (a : Option Addr) (n cap : Nat) (f : Nat → Tb) (left : Int) (w : World) (hA : TAt w a n f) (hn : n ≤ maxLen) (hs : ∀ i, i < n → TLens (f i)) (h0 : 0 ≤ left) (h1 : left ≤ 1048576) :
    Calls Tryz.prog 10 #[.slice a n cap, .int .i64 left] w fun e w' => (∃ r : Int, e = .returned (.int .i64 r) ∧ (r = -1 ∨ 0 ≤ r ∧ r + twTo f n ≤ left)) ∧ Below w.heap.size w w' := by
  unfold maxLen at hn
  have HA := hide hA
  have HS := hide hs
  clear hA hs
  by_cases h : left < n
  · go_enter Tryz.func10, Tryz.ntmps10
    go_wp2
    go_ret
    exact ⟨⟨-1, by simp, .inl rfl⟩, Below.refl _ _⟩
  go_enter Tryz.func10, Tryz.ntmps10
  go_wp2
  go_loopw [1, 5] (fun l i wr => ∃ (k : Nat) (lf : Int), k ≤ n ∧ i = .int .i64 k ∧ l = .int .i64 lf ∧ 0 ≤ lf ∧ lf + n + twTo f k ≤ left + k ∧ Below w.heap.size w wr) (fun _ i _ => n - (intOf i).toNat)
  case atStart => exact ⟨0, left - n, by omega, rfl, by simp, by omega, by show left - n + n + ((0 : Nat) : Int) ≤ left + ((0 : Nat) : Int); omega, Below.refl _ _⟩
  case round =>
    obtain ⟨k, lf, hk, rfl, rfl, hl0, hl1, hb⟩ := hrel
    have hkt := twTo_n f k
    by_cases hkn : k < n
    · obtain ⟨b, off, rfl, hbl, hcs⟩ := (unhide HA).resolve_left (by omega)
      obtain ⟨va, vc, la, lc, ia, ic, xa, xc, hc, hv, hd⟩ := hcs k hkn
      obtain ⟨e0, e1, e2, e3, e4, e5, e6, e7⟩ := hc.keepAt (fun q _ => hb.cell (p := ⟨b, off + k * 8 + q, none⟩) hbl)
      have HVD := hide (And.intro (hv.below hb rfl) (hd.below hb))
      have HB := hide hb
      have hstep : twTo f (k + 1) = twTo f k + tw (f k) := rfl
      have HST := hide hstep
      clear hcs hc hv hd hb hstep
      go_wp2_with fail
      refine (szTable_w va vc la lc ia ic xa xc (f k) lf _ (unhide HVD).1 (unhide HVD).2 (unhide HS k hkn) hl0 (by omega)).mono ?_
      rintro e w1 ⟨⟨r, rfl, hr⟩, hb1⟩
      have HB1 := hide ((unhide HB).trans (hb1.mono (unhide HB).size))
      clear hb1 e0 e1 e2 e3 e4 e5 e6 e7
      rcases hr with rfl | ⟨g0, g1⟩
      · go_wp2_with fail
        go_ret
        exact ⟨⟨-1, by simp, .inl rfl⟩, unhide HB1⟩
      · have g2 : r + n + twTo f (k + 1) ≤ left + (k + 1 : Nat) := by rw [unhide HST]; omega
        have G2 := hide g2
        clear g2 g1
        go_wp2_with fail
        go_roundw
        case rel => exact ⟨k + 1, r, by omega, by go_num, rfl, g0, unhide G2, unhide HB1⟩
        case measure => simp [intOf]; omega
    · have hkn' : k = n := by omega
      subst hkn'
      have HB := hide hb
      have hfin : lf + twTo f k ≤ left := by omega
      have HF := hide hfin
      clear hb hfin hl1
      go_wp2_with fail
      go_ret
      exact ⟨⟨lf, by simp, .inr ⟨hl0, unhide HF⟩⟩, unhide HB⟩

set_option maxHeartbeats 400000 in
theorem szSite_w (s : Si) (left : Int) (w : World) (hs : s.key.size ≤ maxLen) (h0 : 0 ≤ left) (h1 : left ≤ 1048576) :
    Calls Tryz.prog 24 #[SV s, .int .i64 left] w fun e w' => e = .returned (.int .i64 (if left < s.key.size then -1 else left - s.key.size)) ∧ Below w.heap.size w w' := by
  unfold maxLen at hs
  by_cases h : left < s.key.size
  · rw [if_pos h]
    go_enter Tryz.func24, Tryz.ntmps24
    go_wp2
    go_ret
    exact ⟨by simp, (Below.refl _ _).alloc (Nat.le_refl _) _⟩
  · rw [if_neg h]
    go_enter Tryz.func24, Tryz.ntmps24
    go_wp2
    go_ret
    exact ⟨by simp, (Below.refl _ _).alloc (Nat.le_refl _) _⟩

set_option maxRecDepth 100000 in
set_option maxHeartbeats 1000000 in
theorem szSiteS_w (a : Option Addr) (n cap : Nat) (f : Nat → Si) (left : Int) (w : World) (hA : SiAt w a n f) (hn : n ≤ maxLen) (hs : ∀ i, i < n → (f i).key.size ≤ maxLen) (h0 : 0 ≤ left) (h1 : left ≤ 1048576) :
    Calls Tryz.prog 11 #[.slice a n cap, .int .i64 left] w fun e w' => (∃ r : Int, e = .returned (.int .i64 r) ∧ (r = -1 ∨ 0 ≤ r ∧ r + n ≤ left)) ∧ Below w.heap.size w w' := by
  unfold maxLen at hn
  have HA := hide hA
  have HS := hide hs
  clear hA hs
  by_cases h : left < n
  · go_enter Tryz.func11, Tryz.ntmps11
    go_wp2
    go_ret
    exact ⟨⟨-1, by simp, .inl rfl⟩, Below.refl _ _⟩
  go_enter Tryz.func11, Tryz.ntmps11
  go_wp2
  go_loopw [1, 5] (fun l i wr => ∃ (k : Nat) (lf : Int), k ≤ n ∧ i = .int .i64 k ∧ l = .int .i64 lf ∧ 0 ≤ lf ∧ lf + n ≤ left ∧ Below w.heap.size w wr) (fun _ i _ => n - (intOf i).toNat)
  case atStart => exact ⟨0, left - n, by omega, rfl, by simp, by omega, by omega, Below.refl _ _⟩
  case round =>
    obtain ⟨k, lf, hk, rfl, rfl, hl0, hl1, hb⟩ := hrel
    by_cases hkn : k < n
    · obtain ⟨b, off, rfl, hbl, hcs⟩ := (unhide HA).resolve_left (by omega)
      obtain ⟨e0, e1, e2, e3, e4⟩ := (hcs k hkn).keep (fun q => hb.cell (p := ⟨b, q, none⟩) hbl)
      have HB := hide hb
      clear hcs hb
      go_wp2_with fail
      refine (szSite_w (f k) lf _ (unhide HS k hkn) hl0 (by omega)).mono ?_
      rintro e w1 ⟨rfl, hb1⟩
      have HB1 := hide ((unhide HB).trans (hb1.mono (unhide HB).size))
      clear hb1 e0 e1 e2 e3 e4
      by_cases hl : lf < (f k).key.size
      · rw [if_pos hl]
        clear hl
        go_wp2_with fail
        go_ret
        exact ⟨⟨-1, by simp, .inl rfl⟩, unhide HB1⟩
      · rw [if_neg hl]
        obtain ⟨r, hr⟩ : ∃ r, r = lf - ((f k).key.size : Int) := ⟨_, rfl⟩
        rw [← hr]
        have g0 : 0 ≤ r := by omega
        have g1 : r + n ≤ left := by omega
        clear hl hr
        go_wp2_with fail
        go_roundw
        case rel => exact ⟨k + 1, r, by omega, by go_num, rfl, g0, g1, unhide HB1⟩
        case measure => simp [intOf]; omega
    · have hkn' : k = n := by omega
      subst hkn'
      have HB := hide hb
      clear hb
      go_wp2_with fail
      go_ret
      exact ⟨⟨lf, by simp, .inr ⟨hl0, hl1⟩⟩, unhide HB⟩

/-- What a store weighs at most. -/
structure SSmall (s : Sto) : Prop where
  f : Light s.nf s.F
  t : twTo s.T s.nt ≤ 1048576
  n : s.ns ≤ 1048576
theorem SSmall.nt {s : Sto} (h : SSmall s) : s.nt ≤ 1048576 := Nat.le_trans (twTo_n _ _) h.t
theorem SSmall.tab {s : Sto} (h : SSmall s) {i : Nat} (hi : i < s.nt) : tw (s.T i) ≤ 1048576 := by
  have := twTo_at s.T hi
  have := h.t
  omega
theorem SSmall.nv {s : Sto} (h : SSmall s) {i : Nat} (hi : i < s.nt) : (s.T i).nv ≤ 1048576 := by have := h.tab hi; unfold tw at this; omega
theorem SSmall.dict {s : Sto} (h : SSmall s) {i : Nat} (hi : i < s.nt) : Small (s.T i).d := by have := h.tab hi; unfold tw dw at this; exact ⟨by omega, by omega, by omega⟩

set_option maxRecDepth 100000 in
set_option maxHeartbeats 1000000 in
theorem szStore_w (fa : Option Addr) (fc : Nat) (ta : Option Addr) (tc : Nat) (sa : Option Addr) (sc : Nat) (s : Sto) (w : World) (hS : StAt w fa ta sa s) (hL : SLens s) :
    Calls Tryz.prog 4 #[StV fa fc ta tc sa sc s, .int .i64 1048576] w fun e w' => (∃ r : Int, e = .returned (.int .i64 r) ∧ (r = -1 ∨ 0 ≤ r ∧ SSmall s)) ∧ Below w.heap.size w w' := by
  have HS := hide hS
  have HL := hide hL
  clear hS hL
  have hb0 : Below w.heap.size w (w.alloc (.cells #[.slice fa s.nf fc, .slice ta s.nt tc, .slice sa s.ns sc] 28)) := (Below.refl _ _).alloc (Nat.le_refl _) _
  have HB0 := hide hb0
  clear hb0
  go_enter Tryz.func4, Tryz.ntmps4
  go_wp2_with fail
  refine (szForest_any fa s.nf fc s.F _ ((unhide HS).below (unhide HB0)).fo (unhide HL).nf (unhide HL).fk).mono ?_
  rintro e w1 ⟨⟨r, rfl, hr⟩, hb1⟩
  obtain ⟨hc1, hf1⟩ := bcell hb1
  have q1 : w1.cell? ⟨w.heap.size, 1, none⟩ = some (.slice ta s.nt tc) := by rw [hc1 _ _ (by simp)]; simp [go_sem]
  have q2 : w1.cell? ⟨w.heap.size, 2, none⟩ = some (.slice sa s.ns sc) := by rw [hc1 _ _ (by simp)]; simp [go_sem]
  have y1 : w.heap.size < w1.heap.size := by have := hb1.size; simp at this; omega
  have HB1 := hide ((unhide HB0).trans (hb1.mono (unhide HB0).size))
  clear hb1 hc1 hf1
  rcases hr with rfl | ⟨g0, g1, hLi⟩
  · clear q1 q2
    go_wp2_with fail
    go_ret
    exact ⟨⟨-1, rfl, .inl rfl⟩, unhide HB1⟩
  have HLI := hide hLi
  clear hLi
  go_wp2_with fail
  refine (szTableS_w ta s.nt tc s.T r _ ((unhide HS).below (unhide HB1)).ta (unhide HL).nt (unhide HL).ts g0 g1).mono ?_
  rintro e w2 ⟨⟨r2, rfl, hr2⟩, hb2⟩
  have p2 := (hb2.cell (p := ⟨w.heap.size, 2, none⟩) y1).trans q2
  have HB2 := hide ((unhide HB1).trans (hb2.mono (unhide HB1).size))
  clear hb2 q1 q2
  rcases hr2 with rfl | ⟨g2, g3⟩
  · clear p2
    go_wp2_with fail
    go_ret
    exact ⟨⟨-1, rfl, .inl rfl⟩, unhide HB2⟩
  go_wp2_with fail
  refine (szSiteS_w sa s.ns sc s.S r2 _ ((unhide HS).below (unhide HB2)).si (unhide HL).ns (unhide HL).sk g2 (by omega)).mono ?_
  rintro e w3 ⟨⟨r3, rfl, hr3⟩, hb3⟩
  have HB3 := hide ((unhide HB2).trans (hb3.mono (unhide HB2).size))
  clear hb3 p2
  rcases hr3 with rfl | ⟨g4, g5⟩
  · go_wp2_with fail
    go_ret
    exact ⟨⟨-1, rfl, .inl rfl⟩, unhide HB3⟩
  have HSM : Hid (SSmall s) := hide ⟨unhide HLI, by omega, by omega⟩
  clear g3 g5
  go_wp2_with fail
  go_ret
  exact ⟨⟨r3, rfl, .inr ⟨g4, unhide HSM⟩⟩, unhide HB3⟩
end Go.Proofs.YtfceeijdmilieaaGreat
