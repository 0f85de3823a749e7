/-
  StI.
-/
import Derived.Test.YtfceeijdmilieaaGreatDoorStAP
import Derived.Test.YtfceeijdmilieaaGreatDoorDkNP
import Derived.Test.YtfceeijdmilieaaGreatDoorFoFP
namespace Go.Proofs.YtfceeijdmilieaaGreatDoor
open Go.ChangeShapes Go.WideShapes Go.ChangeAt Go.RowKit Go.Deep

/-- Where the rows of a table lie. -/
structure Ad where
  va : Option Addr
  vc : Nat
  la : Option Addr
  lc : Nat
  ia : Option Addr
  ic : Nat
  xa : Option Addr
  xc : Nat
def vL (v : Vl) : List Value := [.int .i64 v.kind, .int .i64 v.num, .float .f64 v.flt, .string v.str, .int .i64 v.ref]
def siL (s : Si) : List Value := [.string s.key, .int .i64 s.shape, .int .i64 s.place, .int .i64 s.hits, .int .i64 s.misses]
def tcs (A : Ad) (t : Tb) : List Value := [.int .i64 t.shape, .slice A.va t.nv A.vc, .slice A.la t.d.n A.lc, .slice A.ia t.d.m A.ic, .slice A.xa t.d.x A.xc, .int .i64 t.d.used, .int .i64 t.d.live, .int .i64 t.d.turns]
theorem VCell.of {w : World} {b o : Nat} {p : Vl} (h : ∀ j u, (vL p)[j]? = some u → w.cell? ⟨b, o + j, none⟩ = some u) : VCell w b o p :=
  ⟨h 0 _ rfl, h 1 _ rfl, h 2 _ rfl, h 3 _ rfl, h 4 _ rfl⟩
theorem SCl.of {w : World} {b o : Nat} {p : Si} (h : ∀ j u, (siL p)[j]? = some u → w.cell? ⟨b, o + j, none⟩ = some u) : SCl w b o p :=
  ⟨h 0 _ rfl, h 1 _ rfl, h 2 _ rfl, h 3 _ rfl, h 4 _ rfl⟩
theorem TCell.of {w : World} {b o : Nat} {A : Ad} {t : Tb} (h : ∀ j u, (tcs A t)[j]? = some u → w.cell? ⟨b, o + j, none⟩ = some u) : TCell w b o A.va A.vc A.la A.lc A.ia A.ic A.xa A.xc t :=
  ⟨h 0 _ rfl, h 1 _ rfl, h 2 _ rfl, h 3 _ rfl, h 4 _ rfl, h 5 _ rfl, h 6 _ rfl, h 7 _ rfl⟩
/-- What comes in is well formed. -/
def WfT (t : Tb) : Prop := (∀ i, i < t.nv → Wf (t.V i)) ∧ WfD t.d
def SWf (s : Sto) : Prop := ∀ i, i < s.nt → WfT (s.T i)
instance : Inhabited Si := ⟨⟨⟨#[]⟩, 0, 0, 0, 0⟩⟩
instance : Inhabited Tb := ⟨⟨0, 0, fun _ => default, ⟨0, fun _ => default, 0, fun _ => 0, 0, fun _ => 0, 0, 0, 0⟩⟩⟩
instance : Inhabited Ad := ⟨⟨none, 0, none, 0, none, 0, none, 0⟩⟩

section
variable {H : Type} {enc : TypeId × Value → H} {P : Program} {w : World} {base : Nat} {spare : Nat → Bool} {held : Bool}

theorem read_values {tS t ti tn tf ts : TypeId} (F : Fs P t ti tn tf ts) (hS : P.underlying tS = some (.slice t)) {fuel : Nat} {cs : List Value} {x : DataW H × List MemPlace} (h : DataW.trod enc P w base spare held fuel tS cs = some x) :
    ∃ a n cap f, cs = [.slice a n cap] ∧ n ≤ maxLen ∧ VAt w a n f ∧ ∀ i, i < n → Wf (f i) := by
  rcases open_slice hS h with ⟨rfl, _⟩ | ⟨a, len, cap, m, n, D, Pl, rfl, hb, hl, hm, hmm, rfl, hx⟩
  · exact ⟨none, 0, 0, fun _ => default, rfl, by unfold maxLen; omega, .inl rfl, fun i hi => by omega⟩
  have hlm : len ≤ m := by rw [hmm]; split <;> omega
  have each : ∀ i, i < len → ∃ p : Vl, (∀ j u, (vL p)[j]? = some u → w.cell? (a.add (i * 5 + j)) = some u) ∧ Wf p := by
    intro i hi
    obtain ⟨cs', h1, h2⟩ := hx i (by omega)
    rw [F.ct] at h1
    obtain ⟨v0, v1, v2, v3, v4, rfl, _, _, wv2, wv3, _, _⟩ := read_value F h2
    obtain ⟨_, _, hcell⟩ := World.cells?_some h1
    refine ⟨⟨v0, v1, v2, v3, v4⟩, fun j u hu => ?_, ⟨flt_lt wv2, wv3⟩⟩
    have hj : j < 5 := by
      have := (List.getElem?_eq_some_iff.1 hu).1
      simpa [vL] using this
    have e := hcell j hj
    rw [add_add] at e
    rw [e]
    simpa [vL] using hu
  obtain ⟨f, hf⟩ := choose_lt each
  refine ⟨some a, len, cap, f, rfl, by omega, ?_, fun i hi => (hf i hi).2⟩
  by_cases h0 : len = 0
  · exact .inl h0
  · right
    obtain ⟨b, off, spot⟩ := a
    have h00 := (hf 0 (by omega)).1 0 _ rfl
    have hspot : spot = none := by simpa [Addr.add] using World.cell?_spot h00
    subst hspot
    refine ⟨b, off, rfl, ?_, fun i hi => ?_⟩
    · have := World.block_lt_of_cell? _ _ h00
      simpa [Addr.add] using this
    · refine VCell.of fun j u hu => ?_
      have := (hf i hi).1 j u hu
      rw [add_plain] at this
      rw [Nat.add_assoc]
      exact this

/-- The fields of a Site. -/
structure Gx (P : Program) (t ti ts : TypeId) : Prop where
  st : ∃ f0 f1 f2 f3 f4 : Field, P.underlying t = some (.struct #[f0, f1, f2, f3, f4]) ∧ f0.type = ts ∧ f1.type = ti ∧ f2.type = ti ∧ f3.type = ti ∧ f4.type = ti ∧ f0.offset = 0 ∧ f1.offset = 1 ∧ f2.offset = 2 ∧ f3.offset = 3 ∧ f4.offset = 4
  ci : P.cellsOf ti = 1
  cs : P.cellsOf ts = 1
  ct : P.cellsOf t = 5
  ui : P.underlying ti = some (.int .i64)
  us : P.underlying ts = some .string
theorem read_site {t ti ts : TypeId} (F : Gx P t ti ts) {fuel : Nat} {cs : List Value} {x : DataW H × List MemPlace} (h : DataW.trod enc P w base spare held fuel t cs = some x) :
    ∃ s : Si, cs = siL s ∧ s.key.size ≤ maxLen := by
  obtain ⟨f0, f1, f2, f3, f4, hu, t0, t1, t2, t3, t4, o0, o1, o2, o3, o4⟩ := F.st
  obtain ⟨xs, n, _, rfl, hl, hlen, hf⟩ := DataW.trod_struct hu h
  rw [F.ct] at hl
  match cs, hl with
  | [c0, c1, c2, c3, c4], _ =>
    match xs, hlen with
    | [y0, y1, y2, y3, y4], _ =>
      have h0 := hf 0 f0 rfl
      have h1 := hf 1 f1 rfl
      have h2 := hf 2 f2 rfl
      have h3 := hf 3 f3 rfl
      have h4 := hf 4 f4 rfl
      simp only [t0, t1, t2, t3, t4, o0, o1, o2, o3, o4, F.ci, F.cs, List.drop_zero, List.drop_succ_cons, List.take_succ_cons, List.take_zero, List.getElem?_cons_zero, List.getElem?_cons_succ] at h0 h1 h2 h3 h4
      obtain ⟨a0, e0, r0, w0⟩ := DataW.trod_string F.us h0
      obtain ⟨a1, e1, r1, w1⟩ := DataW.trod_int F.ui h1
      obtain ⟨a2, e2, r2, w2⟩ := DataW.trod_int F.ui h2
      obtain ⟨a3, e3, r3, w3⟩ := DataW.trod_int F.ui h3
      obtain ⟨a4, e4, r4, w4⟩ := DataW.trod_int F.ui h4
      simp only [List.cons.injEq, and_true] at e0 e1 e2 e3 e4
      subst e0 e1 e2 e3 e4
      exact ⟨⟨a0, a1, a2, a3, a4⟩, rfl, w0⟩
theorem read_sites {tS t ti ts : TypeId} (F : Gx P t ti ts) (hS : P.underlying tS = some (.slice t)) {fuel : Nat} {cs : List Value} {x : DataW H × List MemPlace} (h : DataW.trod enc P w base spare held fuel tS cs = some x) :
    ∃ a n cap f, cs = [.slice a n cap] ∧ n ≤ maxLen ∧ SiAt w a n f ∧ ∀ i, i < n → (f i).key.size ≤ maxLen := by
  rcases open_slice hS h with ⟨rfl, _⟩ | ⟨a, len, cap, m, n, D, Pl, rfl, hb, hl, hm, hmm, rfl, hx⟩
  · exact ⟨none, 0, 0, fun _ => default, rfl, by unfold maxLen; omega, .inl rfl, fun i hi => by omega⟩
  have hlm : len ≤ m := by rw [hmm]; split <;> omega
  have each : ∀ i, i < len → ∃ p : Si, (∀ j u, (siL p)[j]? = some u → w.cell? (a.add (i * 5 + j)) = some u) ∧ p.key.size ≤ maxLen := by
    intro i hi
    obtain ⟨cs', h1, h2⟩ := hx i (by omega)
    rw [F.ct] at h1
    obtain ⟨p, rfl, wp⟩ := read_site F h2
    obtain ⟨_, _, hcell⟩ := World.cells?_some h1
    refine ⟨p, fun j u hu => ?_, wp⟩
    have hj : j < 5 := by
      have := (List.getElem?_eq_some_iff.1 hu).1
      simpa [siL] using this
    have e := hcell j hj
    rw [add_add] at e
    rw [e]
    simpa using hu
  obtain ⟨f, hf⟩ := choose_lt each
  refine ⟨some a, len, cap, f, rfl, by omega, ?_, fun i hi => (hf i hi).2⟩
  by_cases h0 : len = 0
  · exact .inl h0
  · right
    obtain ⟨b, off, spot⟩ := a
    have h00 := (hf 0 (by omega)).1 0 _ rfl
    have hspot : spot = none := by simpa [Addr.add] using World.cell?_spot h00
    subst hspot
    refine ⟨b, off, rfl, ?_, fun i hi => ?_⟩
    · have := World.block_lt_of_cell? _ _ h00
      simpa [Addr.add] using this
    · refine SCl.of fun j u hu => ?_
      have := (hf i hi).1 j u hu
      rw [add_plain] at this
      rw [Nat.add_assoc]
      exact this

/-- The fields of a Table. -/
structure Gt (P : Program) (t tVs tD tL tI tP tv ti tn tf ts : TypeId) : Prop where
  st : ∃ f0 f1 f2 : Field, P.underlying t = some (.struct #[f0, f1, f2]) ∧ f0.type = ti ∧ f1.type = tVs ∧ f2.type = tD ∧ f0.offset = 0 ∧ f1.offset = 1 ∧ f2.offset = 2
  ct : P.cellsOf t = 8
  cv : P.cellsOf tVs = 1
  uv : P.underlying tVs = some (.slice tv)
  ds : Gd P tD tL tI tP tv ti tn tf ts
theorem read_table {t tVs tD tL tI tP tv ti tn tf ts : TypeId} (F : Gt P t tVs tD tL tI tP tv ti tn tf ts) {fuel : Nat} {cs : List Value} {x : DataW H × List MemPlace} (h : DataW.trod enc P w base spare held fuel t cs = some x) :
    ∃ (A : Ad) (t : Tb), cs = tcs A t ∧ VAt w A.va t.nv t.V ∧ DAt w A.la A.ia A.xa t.d ∧ TLens t ∧ WfT t := by
  obtain ⟨f0, f1, f2, hu, t0, t1, t2, o0, o1, o2⟩ := F.st
  obtain ⟨xs, n, _, rfl, hl, hlen, hf⟩ := DataW.trod_struct hu h
  rw [F.ct] at hl
  match cs, hl with
  | [c0, c1, c2, c3, c4, c5, c6, c7], _ =>
    match xs, hlen with
    | [y0, y1, y2], _ =>
      have h0 := hf 0 f0 rfl
      have h1 := hf 1 f1 rfl
      have h2 := hf 2 f2 rfl
      simp only [t0, t1, t2, o0, o1, o2, F.cv, F.ds.ct, F.ds.ps.vs.ci, List.drop_zero, List.drop_succ_cons, List.take_succ_cons, List.take_zero, List.getElem?_cons_zero, List.getElem?_cons_succ] at h0 h1 h2
      obtain ⟨a0, e0, r0, w0⟩ := DataW.trod_int F.ds.ps.vs.ui h0
      obtain ⟨va, nv, vc, fV, e1, n1, pV, wV⟩ := read_values F.ds.ps.vs F.uv h1
      obtain ⟨la, lc, ia, ic, xa, xc, d, e2, pD, lD, wD⟩ := read_dict F.ds h2
      simp only [List.cons.injEq, and_true] at e0 e1 e2
      subst e0 e1
      obtain ⟨rfl, rfl, rfl, rfl, rfl, rfl⟩ := e2
      exact ⟨⟨va, vc, la, lc, ia, ic, xa, xc⟩, ⟨a0, nv, fV, d⟩, rfl, pV, pD, ⟨n1, fun i hi => (wV i hi).str, lD⟩, ⟨wV, wD⟩⟩
theorem read_tables {tS t tVs tD tL tI tP tv ti tn tf ts : TypeId} (F : Gt P t tVs tD tL tI tP tv ti tn tf ts) (hS : P.underlying tS = some (.slice t)) {fuel : Nat} {cs : List Value} {x : DataW H × List MemPlace} (h : DataW.trod enc P w base spare held fuel tS cs = some x) :
    ∃ a n cap f, cs = [.slice a n cap] ∧ n ≤ maxLen ∧ TAt w a n f ∧ ∀ i, i < n → TLens (f i) ∧ WfT (f i) := by
  rcases open_slice hS h with ⟨rfl, _⟩ | ⟨a, len, cap, m, n, D, Pl, rfl, hb, hl, hm, hmm, rfl, hx⟩
  · exact ⟨none, 0, 0, fun _ => default, rfl, by unfold maxLen; omega, .inl rfl, fun i hi => by omega⟩
  have hlm : len ≤ m := by rw [hmm]; split <;> omega
  have each : ∀ i, i < len → ∃ q : Ad × Tb, (∀ j u, (tcs q.1 q.2)[j]? = some u → w.cell? (a.add (i * 8 + j)) = some u) ∧ VAt w q.1.va q.2.nv q.2.V ∧ DAt w q.1.la q.1.ia q.1.xa q.2.d ∧ TLens q.2 ∧ WfT q.2 := by
    intro i hi
    obtain ⟨cs', h1, h2⟩ := hx i (by omega)
    rw [F.ct] at h1
    obtain ⟨A, t, rfl, pv, pd, lt, wt⟩ := read_table F h2
    obtain ⟨_, _, hcell⟩ := World.cells?_some h1
    refine ⟨⟨A, t⟩, fun j u hu => ?_, pv, pd, lt, wt⟩
    have hj : j < 8 := by
      have := (List.getElem?_eq_some_iff.1 hu).1
      simpa [tcs] using this
    have e := hcell j hj
    rw [add_add] at e
    rw [e]
    simpa using hu
  obtain ⟨f, hf⟩ := choose_lt each
  refine ⟨some a, len, cap, fun i => (f i).2, rfl, by omega, ?_, fun i hi => ⟨(hf i hi).2.2.2.1, (hf i hi).2.2.2.2⟩⟩
  by_cases h0 : len = 0
  · exact .inl h0
  · right
    obtain ⟨b, off, spot⟩ := a
    have h00 := (hf 0 (by omega)).1 0 _ rfl
    have hspot : spot = none := by simpa [Addr.add] using World.cell?_spot h00
    subst hspot
    refine ⟨b, off, rfl, ?_, fun i hi => ?_⟩
    · have := World.block_lt_of_cell? _ _ h00
      simpa [Addr.add] using this
    · refine ⟨_, _, _, _, _, _, _, _, TCell.of (A := (f i).1) fun j u hu => ?_, (hf i hi).2.1, (hf i hi).2.2.1⟩
      have := (hf i hi).1 j u hu
      rw [add_plain] at this
      rw [Nat.add_assoc]
      exact this
end

theorem gxL : Gx Tryz.prog 189 3 9 := ⟨⟨_, _, _, _, _, Tryz.underlying189, rfl, rfl, rfl, rfl, rfl, rfl, rfl, rfl, rfl, rfl⟩, by kernel_rfl, by kernel_rfl, by kernel_rfl, Tryz.underlying3, Tryz.underlying9⟩
theorem gtL : Gt Tryz.prog 187 182 185 183 89 326 62 3 2 30 9 := ⟨⟨_, _, _, Tryz.underlying187, rfl, rfl, rfl, rfl, rfl, rfl⟩, by kernel_rfl, by kernel_rfl, Tryz.underlying182, gdL⟩
theorem gsL' : Gs Tryz.prog 247 3 9 := ⟨⟨_, _, _, Tryz.underlying247, rfl, rfl, rfl, rfl, rfl, rfl⟩, by kernel_rfl, by kernel_rfl, by kernel_rfl, Tryz.underlying3, Tryz.underlying9⟩
theorem cellsF' : Tryz.prog.cellsOf 49 = 1 := by kernel_rfl
theorem cellsSt : Tryz.prog.cellsOf 53 = 3 := by kernel_rfl
theorem cellsTs : Tryz.prog.cellsOf 50 = 1 := by kernel_rfl
theorem cellsSs : Tryz.prog.cellsOf 51 = 1 := by kernel_rfl

set_option maxRecDepth 100000 in
theorem read_forest' {H : Type} {enc : TypeId × Value → H} {w : World} {base : Nat} {spare : Nat → Bool} {held : Bool} {fuel : Nat} {cs : List Value} {x : DataW H × List MemPlace} (h : DataW.trod enc Tryz.prog w base spare held fuel 49 cs = some x) :
    ∃ a n cap f, cs = [.slice a n cap] ∧ n ≤ maxLen ∧ ShAt w a n f ∧ (∀ i, i < n → (f i).key.size ≤ maxLen) := by
  obtain ⟨xs, n, _, rfl, hl, hlen, hf⟩ := DataW.trod_struct Tryz.underlying49 h
  rw [cellsF'] at hl
  match cs, hl with
  | [c0], _ =>
    match xs, hlen with
    | [y0], _ =>
      have h0 := hf 0 _ rfl
      simp only [List.getElem?_cons_zero] at h0
      obtain ⟨a, m, cap, f, e, h1, h2, h3, _⟩ := read_shapes gsL' Tryz.underlying47 h0
      exact ⟨a, m, cap, f, e, h1, h2, h3⟩

set_option maxRecDepth 100000 in
theorem read_store {H : Type} {enc : TypeId × Value → H} {w : World} {base : Nat} {spare : Nat → Bool} {held : Bool} {fuel : Nat} {cs : List Value} {x : DataW H × List MemPlace} (h : DataW.trod enc Tryz.prog w base spare held fuel 53 cs = some x) :
    ∃ fa fc ta tc sa sc s, cs = [.slice fa s.nf fc, .slice ta s.nt tc, .slice sa s.ns sc] ∧ StAt w fa ta sa s ∧ SLens s ∧ SWf s := by
  obtain ⟨f0, f1, f2, hu, t0, t1, t2, o0, o1, o2⟩ : ∃ f0 f1 f2 : Field, Tryz.prog.underlying 53 = some (.struct #[f0, f1, f2]) ∧ f0.type = 49 ∧ f1.type = 50 ∧ f2.type = 51 ∧ f0.offset = 0 ∧ f1.offset = 1 ∧ f2.offset = 2 := ⟨_, _, _, Tryz.underlying53, rfl, rfl, rfl, rfl, rfl, rfl⟩
  obtain ⟨xs, n, _, rfl, hl, hlen, hf⟩ := DataW.trod_struct hu h
  rw [cellsSt] at hl
  match cs, hl with
  | [c0, c1, c2], _ =>
    match xs, hlen with
    | [y0, y1, y2], _ =>
      have h0 := hf 0 f0 rfl
      have h1 := hf 1 f1 rfl
      have h2 := hf 2 f2 rfl
      simp only [t0, t1, t2, o0, o1, o2, cellsF', cellsTs, cellsSs, List.drop_zero, List.drop_succ_cons, List.take_succ_cons, List.take_zero, List.getElem?_cons_zero, List.getElem?_cons_succ] at h0 h1 h2
      obtain ⟨fa, fn, fc, fF, e0, n0, pF, wF⟩ := read_forest' h0
      obtain ⟨ta, tn, tc, fT, e1, n1, pT, wT⟩ := read_tables gtL Tryz.underlying50 h1
      obtain ⟨sa, sn, sc, fS, e2, n2, pS, wS⟩ := read_sites gxL Tryz.underlying51 h2
      simp only [List.cons.injEq, and_true] at e0 e1 e2
      subst e0 e1 e2
      exact ⟨fa, fc, ta, tc, sa, sc, ⟨fn, fF, tn, fT, sn, fS⟩, rfl, ⟨pF, pT, pS⟩, ⟨n0, wF, n1, fun i hi => (wT i hi).1, n2, wS⟩, fun i hi => (wT i hi).2⟩

set_option maxRecDepth 100000 in
theorem open_store {H : Type} {enc : TypeId × Value → H} {w : World} {base : Nat} {spare : Nat → Bool} {held : Bool} {r : Reach} {b0 : Nat} {v : Value} {d : DataW H} {p : List MemPlace} (hv : Value.okWide Tryz.prog w r b0 53 v) (h : DataW.Trod enc Tryz.prog w base spare held 53 v d p) :
    ∃ fa fc ta tc sa sc s, v = StV fa fc ta tc sa sc s ∧ StAt w fa ta sa s ∧ SLens s ∧ SWf s := by
  obtain ⟨cs, rfl, hsz⟩ := okWide_struct Tryz.underlying53 hv
  obtain ⟨c0, c1, c2, rfl⟩ : ∃ c0 c1 c2, cs = #[c0, c1, c2] := by
    obtain ⟨l⟩ := cs
    match l, hsz.trans cellsSt with
    | [c0, c1, c2], _ => exact ⟨c0, c1, c2, rfl⟩
  obtain ⟨fuel, hf⟩ := h
  obtain ⟨fa, fc, ta, tc, sa, sc, s, e, h1, h2, h3⟩ := read_store hf
  simp only [Value.cells, List.cons.injEq, and_true] at e
  obtain ⟨rfl, rfl, rfl⟩ := e
  exact ⟨fa, fc, ta, tc, sa, sc, s, rfl, h1, h2, h3⟩
end Go.Proofs.YtfceeijdmilieaaGreatDoor
