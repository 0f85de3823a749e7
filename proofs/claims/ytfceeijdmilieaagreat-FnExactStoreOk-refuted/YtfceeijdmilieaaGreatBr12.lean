/-
  NodA, NodB, NodC, NodD.
-/
import Derived.Test.YtfceeijdmilieaaGreatFoDP
import Derived.Maps.Own
import Derived.Maps.OwnSet
import Derived.Maps.Views
import Derived.DeepKeys4
import Derived.BigQuiet
import Derived.RegionTactic
import Derived.ChangeAlike
namespace Go.Proofs.YtfceeijdmilieaaGreat
open Go.RowKit
open Go.Maps (Keyed)
set_option linter.unusedVariables false

/-- An element of a map, read as itself. -/
def tokR (v : Value) : Option (DataW Value × List MemPlace) := some (.held v, [])

/-- Block m is a map of at most n entries whose look-ups answer g. -/
def MapIs (P : Program) (K : TypeId) (w : World) (m n : Nat) (g : Value → Value) : Prop :=
  ∃ D, w.ownsMap P K tokR m n D ∧ ∀ key kl, keyOf P K key = some kl → D.atKey kl (.held (.pointer none)) = .held (g key)

theorem MapIs.made (P : Program) (K : TypeId) (w : World) : MapIs P K (w.alloc (.map #[] 0)) w.heap.size 0 (fun _ => .pointer none) :=
  ⟨_, World.ownsMap_made w P K tokR, fun key kl h => rfl⟩

theorem MapIs.isMap {P : Program} {K : TypeId} {w : World} {m n : Nat} {g : Value → Value} (h : MapIs P K w m n g) : ∃ es c, w.heap[m]? = some (.map es c) := by
  obtain ⟨D, ⟨es, c, hb, _⟩, _⟩ := h
  exact ⟨es, c, hb⟩

theorem MapIs.block {P : Program} {K : TypeId} {w w' : World} {m n : Nat} {g : Value → Value} (h : MapIs P K w m n g) (e : w'.heap[m]? = w.heap[m]?) : MapIs P K w' m n g := by
  obtain ⟨D, ⟨es, c, hb, F, hs, hD⟩, hl⟩ := h
  exact ⟨D, ⟨es, c, e.trans hb, F, hs, hD⟩, hl⟩

theorem MapIs.mono {P : Program} {K : TypeId} {w : World} {m n n' : Nat} {g : Value → Value} (h : MapIs P K w m n g) (hn : n ≤ n') : MapIs P K w m n' g := by
  obtain ⟨D, ho, hl⟩ := h
  exact ⟨D, ho.mono hn, hl⟩

theorem MapIs.look {P : Program} {K t e : TypeId} {w : World} {m n : Nat} {g : Value → Value} (h : MapIs P K w m n g) (L : Keyed P K) (ht : P.underlying t = some (.map K e)) (hz : (zeroValue e).run P w = .ok (.pointer none) w) {key : Value} {kl : Lit} (hk : keyOf P K key = some kl) :
    (Instr.lookup t (.map (some m)) key false).run P w = .ok (g key) w := by
  obtain ⟨D, ho, hl⟩ := h
  obtain ⟨v, ps, hrun, hv⟩ := ho.lookup L ht hz (zd := .held (.pointer none)) (zp := []) rfl hk
  rw [hl key kl hk] at hv
  unfold tokR at hv
  simp at hv
  rw [hrun, hv.1]

open Classical in
theorem MapIs.put {P : Program} {K t e : TypeId} {w : World} {m n : Nat} {g : Value → Value} (h : MapIs P K w m n g) (L : Keyed P K) (ht : P.underlying t = some (.map K e)) (hn : n < maxLen) {key : Value} (val : Value) {kl : Lit} (hk : keyOf P K key = some kl) :
    ∃ w', (Instr.mapUpdate t (.map (some m)) key val).run P w = .ok () w' ∧ MapIs P K w' m (n + 1) (fun k => if k = key then val else g k) ∧ w.grownBy w' (some m) := by
  obtain ⟨D, ho, hl⟩ := h
  obtain ⟨w', hrun, ho', hg⟩ := ho.update L ht hn hk (val := val) (d := .held val) (ps := []) rfl
  refine ⟨w', hrun, ⟨_, ho', fun k' kl' hk' => ?_⟩, hg⟩
  by_cases e : k' = key
  · subst e
    have : kl' = kl := by rw [hk] at hk'; exact (Option.some.inj hk').symm
    subst this
    show _ = DataW.held (if k' = k' then val else g k')
    rw [if_pos rfl]
    exact Maps.atKey_put_same ho.isMap (L.key hk) _ _
  · show _ = DataW.held (if k' = key then val else g k')
    rw [if_neg e, Maps.atKey_put_other (fun e2 => e (L.inj hk' (by rw [e2]; exact hk)))]
    exact hl k' kl' hk'

/-- Node number i of shape s, its parent and its kids. -/
def nodeCell (i : Nat) (s : Shp) (par : Option Addr) (m : Option Nat) : Nat → Value
  | 0 => .int .i64 i
  | 1 => .int .i64 s.parent
  | 2 => .string s.key
  | 3 => .int .i64 s.count
  | 4 => .pointer par
  | _ => .map m

abbrev ShV (s : Shp) : Value := Sh s.parent s.key s.count
abbrev shPar (f : Nat → Shp) (i : Nat) : Nat := (f i).parent.toNat

theorem ShV_inj {a b : Shp} (h : ShV a = ShV b) : a = b := by
  cases a; cases b
  simp at h
  simp [h]

/-- What the kids of node i are. -/
def Kids (f : Nat → Shp) (k : Nat) (B N : Nat → Nat) (i : Nat) (g : Value → Value) : Prop :=
  ∀ v, (∃ j, 0 < j ∧ j < k ∧ N j = j ∧ N (shPar f j) = i ∧ v = ShV (f j) ∧ g v = .pointer (some ⟨B j, 0, none⟩)) ∨
    (g v = .pointer none ∧ ∀ j, 0 < j → j < k → N j = j → N (shPar f j) = i → ShV (f j) ≠ v)

def parOf (f : Nat → Shp) (B : Nat → Nat) (i : Nat) : Option Addr := if i = 0 then none else some ⟨B (shPar f i), 0, none⟩

/-- The nodes of the first k shapes. -/
structure Nodes (P : Program) (K Tn : TypeId) (w : World) (f : Nat → Shp) (b0 k : Nat) (B N : Nat → Nat) (M : Nat → Option Nat) : Prop where
  pos : 0 < k
  n0 : N 0 = 0
  le : ∀ i, i < k → N i ≤ i
  own : ∀ i, i < k → N (N i) = N i
  same : ∀ i, i < k → f (N i) = f i
  one : ∀ i j, i < k → j < k → f i = f j → N i = N j
  blk : ∀ i, i < k → B (N i) = B i
  base : ∀ i, i < k → b0 ≤ B i
  node : ∀ i, i < k → N i = i → w.rowIs (B i) Tn 6 (nodeCell i (f i) (parOf f B i) (M i))
  apart : ∀ i j, i < k → j < k → N i = i → N j = j → B i = B j → i = j
  mbase : ∀ i m, i < k → N i = i → M i = some m → b0 ≤ m
  mapart : ∀ i j m, i < k → j < k → N i = i → N j = j → M i = some m → M j = some m → i = j
  bare : ∀ i, i < k → N i = i → M i = none → ∀ j, 0 < j → j < k → N j = j → N (shPar f j) ≠ i
  kids : ∀ i m, i < k → N i = i → M i = some m → ∃ g, MapIs P K w m k g ∧ Kids f k B N i g

/-- A block that belongs to nodes: one of theirs, or a map. -/
def Nodal (Tn : TypeId) (w : World) (b : Nat) : Prop := (∃ c, w.heap[b]? = some (.cells c Tn (0, 0))) ∨ ∃ es c, w.heap[b]? = some (.map es c)

theorem Nodes.keep {P : Program} {K Tn : TypeId} {w w' : World} {f : Nat → Shp} {b0 k : Nat} {B N : Nat → Nat} {M : Nat → Option Nat} (h : Nodes P K Tn w f b0 k B N M) (hk : ∀ b, Nodal Tn w b → w'.heap[b]? = w.heap[b]?) : Nodes P K Tn w' f b0 k B N M :=
  { h with
    node := fun i hi hn => (h.node i hi hn).of_block (hk _ (by obtain ⟨c, hb, _⟩ := h.node i hi hn; exact .inl ⟨c, hb⟩))
    kids := fun i m hi hn hm => by
      obtain ⟨g, hg, hK⟩ := h.kids i m hi hn hm
      exact ⟨g, hg.block (hk _ (.inr hg.isMap)), hK⟩ }

/-- Nothing but nodes' blocks from b0 on has turned. -/
structure Grown (Tn : TypeId) (b0 : Nat) (w w' : World) : Prop where
  os : w'.os = w.os
  tape : w'.tape = w.tape
  output : w'.output = w.output
  size : w.heap.size ≤ w'.heap.size
  block : ∀ b, b < w.heap.size → b < b0 ∨ ¬ Nodal Tn w b → w'.heap[b]? = w.heap[b]?

/-- The shape is there already. -/
theorem Nodes.found {P : Program} {K Tn : TypeId} {w : World} {f : Nat → Shp} {b0 k : Nat} {B N : Nat → Nat} {M : Nat → Option Nat} (h : Nodes P K Tn w f b0 k B N M) {j : Nat} (hj : j < k) (hp : shPar f k < k) (hNj : N j = j) (hs : f j = f k)
    (hpp : ∀ i, 0 < i → i < k → shPar f i < i) :
    Nodes P K Tn w f b0 (k + 1) (fun i => if i = k then B j else B i) (fun i => if i = k then j else N i) M := by
  have nB : ∀ i, i < k → (if i = k then B j else B i) = B i := fun i hi => if_neg (by omega)
  have nN : ∀ i, i < k → (if i = k then j else N i) = N i := fun i hi => if_neg (by omega)
  have own' : ∀ i, i < k + 1 → (if i = k then j else N i) = i → i < k ∧ N i = i := fun i hi e => by
    by_cases e2 : i = k
    · rw [if_pos e2] at e; omega
    · rw [if_neg e2] at e; exact ⟨by omega, e⟩
  have hpar : ∀ i, i < k → parOf f (fun i => if i = k then B j else B i) i = parOf f B i := fun i hi => by
    unfold parOf
    by_cases e : i = 0
    · simp [e]
    · have := hpp i (by omega) hi
      simp only [e, if_false]
      rw [if_neg (by omega)]
  constructor
  · exact Nat.succ_pos _
  · show (if 0 = k then j else N 0) = 0
    rw [nN 0 h.pos]; exact h.n0
  · intro i hi
    show (if i = k then j else N i) ≤ i
    split
    · omega
    · exact h.le i (by omega)
  · intro i hi
    show (if (if i = k then j else N i) = k then j else N (if i = k then j else N i)) = (if i = k then j else N i)
    by_cases e : i = k
    · rw [if_pos e, if_neg (by omega)]; exact hNj
    · rw [if_neg e, if_neg (by have := h.le i (by omega); omega)]; exact h.own i (by omega)
  · intro i hi
    show f (if i = k then j else N i) = f i
    by_cases e : i = k
    · rw [if_pos e, e]; exact hs
    · rw [if_neg e]; exact h.same i (by omega)
  · intro i l hi hl e
    show (if i = k then j else N i) = (if l = k then j else N l)
    by_cases e1 : i = k
    · by_cases e2 : l = k
      · rw [if_pos e1, if_pos e2]
      · rw [if_pos e1, if_neg e2, ← hNj]; exact h.one _ _ hj (by omega) (by rw [hs, ← e1]; exact e)
    · by_cases e2 : l = k
      · rw [if_neg e1, if_pos e2, ← hNj]; exact h.one _ _ (by omega) hj (by rw [hs, ← e2]; exact e)
      · rw [if_neg e1, if_neg e2]; exact h.one _ _ (by omega) (by omega) e
  · intro i hi
    show (if (if i = k then j else N i) = k then B j else B (if i = k then j else N i)) = (if i = k then B j else B i)
    by_cases e : i = k
    · rw [if_pos e, if_neg (by omega), if_pos e]
    · rw [if_neg e, if_neg (by have := h.le i (by omega); omega), if_neg e]; exact h.blk i (by omega)
  · intro i hi
    show b0 ≤ (if i = k then B j else B i)
    split
    · exact h.base j hj
    · exact h.base i (by omega)
  · intro i hi hn
    obtain ⟨h1, h2⟩ := own' i hi hn
    show w.rowIs (if i = k then B j else B i) Tn 6 _
    rw [hpar i h1, nB i h1]
    exact h.node i h1 h2
  · intro i l hi hl hn hm e
    obtain ⟨h1, h2⟩ := own' i hi hn
    obtain ⟨h3, h4⟩ := own' l hl hm
    have e : (if i = k then B j else B i) = (if l = k then B j else B l) := e
    rw [nB i h1, nB l h3] at e
    exact h.apart i l h1 h3 h2 h4 e
  · intro i m hi hn hm
    obtain ⟨h1, h2⟩ := own' i hi hn
    exact h.mbase i m h1 h2 hm
  · intro i l m hi hl hn hm e1 e2
    obtain ⟨h1, h2⟩ := own' i hi hn
    obtain ⟨h3, h4⟩ := own' l hl hm
    exact h.mapart i l m h1 h3 h2 h4 e1 e2
  · intro i hi hn hm l h0 hl hnl
    obtain ⟨h1, h2⟩ := own' i hi hn
    obtain ⟨h3, h4⟩ := own' l hl hnl
    show (if shPar f l = k then j else N (shPar f l)) ≠ i
    have := hpp l h0 h3
    rw [nN _ (by omega)]
    exact h.bare i h1 h2 hm l h0 h3 h4
  · intro i m hi hn hm
    obtain ⟨h1, h2⟩ := own' i hi hn
    obtain ⟨g, hg, hK⟩ := h.kids i m h1 h2 hm
    refine ⟨g, hg.mono (Nat.le_succ _), fun v => ?_⟩
    rcases hK v with ⟨l, a1, a2, a3, a4, a5, a6⟩ | ⟨a1, a2⟩
    · have := hpp l a1 a2
      exact .inl ⟨l, a1, by omega, by show (if l = k then j else N l) = l; rw [nN l a2]; exact a3, by show (if shPar f l = k then j else N (shPar f l)) = i; rw [nN _ (by omega)]; exact a4, a5, by show _ = Value.pointer (some ⟨if l = k then B j else B l, 0, none⟩); rw [nB l a2]; exact a6⟩
    · refine .inr ⟨a1, fun l b1 b2 b3 b4 => ?_⟩
      obtain ⟨h3, h4⟩ := own' l b2 b3
      have := hpp l b1 h3
      have b4 : (if shPar f l = k then j else N (shPar f l)) = i := b4
      rw [nN _ (by omega)] at b4
      exact a2 l b1 h3 h4 b4

open Classical in
/-- A new shape. -/
theorem Nodes.fresh {P : Program} {K Tn : TypeId} {w w' : World} {f : Nat → Shp} {b0 k : Nat} {B N : Nat → Nat} {M : Nat → Option Nat} (h : Nodes P K Tn w f b0 k B N M) (hp : shPar f k < k)
    (hpp : ∀ i, 0 < i → i < k → shPar f i < i) (hno : ∀ j, j < k → f j ≠ f k) {a r mm : Nat} {g : Value → Value} (ha : a = N (shPar f k))
    (ra : w'.rowIs (B a) Tn 6 (nodeCell a (f a) (parOf f B a) (some mm)))
    (ro : ∀ i, i < k → N i = i → i ≠ a → w'.heap[B i]? = w.heap[B i]?)
    (mo : ∀ i m, i < k → N i = i → i ≠ a → M i = some m → w'.heap[m]? = w.heap[m]? ∧ m ≠ mm)
    (rn : w'.rowIs r Tn 6 (nodeCell k (f k) (some ⟨B (shPar f k), 0, none⟩) none))
    (hr : b0 ≤ r) (hrB : ∀ i, i < k → B i ≠ r) (hmm : b0 ≤ mm) (hK : Kids f k B N a g)
    (hM : MapIs P K w' mm (k + 1) (fun v => if v = ShV (f k) then .pointer (some ⟨r, 0, none⟩) else g v)) :
    Nodes P K Tn w' f b0 (k + 1) (fun i => if i = k then r else B i) (fun i => if i = k then k else N i) (fun i => if i = k then none else if i = a then some mm else M i) := by
  have hak : a < k := by rw [ha]; exact Nat.lt_of_le_of_lt (h.le _ hp) hp
  have hNa : N a = a := by rw [ha]; exact h.own _ hp
  have hk0 := h.pos
  have nB : ∀ i, i < k → (if i = k then r else B i) = B i := fun i hi => if_neg (by omega)
  have nN : ∀ i, i < k → (if i = k then k else N i) = N i := fun i hi => if_neg (by omega)
  have nM : ∀ i, i < k → i ≠ a → (if i = k then none else if i = a then some mm else M i) = M i := fun i hi ha => by rw [if_neg (by omega), if_neg ha]
  have nMa : (if a = k then none else if a = a then some mm else M a) = some mm := by rw [if_neg (by omega), if_pos rfl]
  have own' : ∀ i, i < k + 1 → (if i = k then k else N i) = i → i = k ∨ i < k ∧ N i = i := fun i hi e => by
    by_cases e2 : i = k
    · exact .inl e2
    · rw [if_neg e2] at e; exact .inr ⟨by omega, e⟩
  have hpar : ∀ i, i < k → parOf f (fun i => if i = k then r else B i) i = parOf f B i := fun i hi => by
    unfold parOf
    by_cases e : i = 0
    · simp [e]
    · have := hpp i (by omega) hi
      simp only [e, if_false]
      rw [if_neg (by omega)]
  have hpp' : ∀ i, 0 < i → i < k + 1 → shPar f i < k := fun i h0 hi => by
    by_cases e : i = k
    · rw [e]; exact hp
    · have := hpp i h0 (by omega); omega
  constructor
  · exact Nat.succ_pos _
  · show (if 0 = k then k else N 0) = 0
    rw [nN 0 h.pos]; exact h.n0
  · intro i hi
    show (if i = k then k else N i) ≤ i
    split
    · omega
    · exact h.le i (by omega)
  · intro i hi
    show (if (if i = k then k else N i) = k then k else N (if i = k then k else N i)) = (if i = k then k else N i)
    by_cases e : i = k
    · rw [if_pos e, if_pos rfl]
    · rw [if_neg e, if_neg (by have := h.le i (by omega); omega)]; exact h.own i (by omega)
  · intro i hi
    show f (if i = k then k else N i) = f i
    by_cases e : i = k
    · rw [if_pos e, e]
    · rw [if_neg e]; exact h.same i (by omega)
  · intro i l hi hl e
    show (if i = k then k else N i) = (if l = k then k else N l)
    by_cases e1 : i = k
    · by_cases e2 : l = k
      · rw [if_pos e1, if_pos e2]
      · exact absurd (by rw [← e1]; exact e.symm) (hno l (by omega))
    · by_cases e2 : l = k
      · exact absurd (by rw [← e2]; exact e) (hno i (by omega))
      · rw [if_neg e1, if_neg e2]; exact h.one _ _ (by omega) (by omega) e
  · intro i hi
    show (if (if i = k then k else N i) = k then r else B (if i = k then k else N i)) = (if i = k then r else B i)
    by_cases e : i = k
    · rw [if_pos e, if_pos rfl, if_pos e]
    · rw [if_neg e, if_neg (by have := h.le i (by omega); omega), if_neg e]; exact h.blk i (by omega)
  · intro i hi
    show b0 ≤ (if i = k then r else B i)
    split
    · exact hr
    · exact h.base i (by omega)
  · intro i hi hn
    show w'.rowIs (if i = k then r else B i) Tn 6 (nodeCell i (f i) (parOf f (fun i => if i = k then r else B i) i) (if i = k then none else if i = a then some mm else M i))
    rcases own' i hi hn with h1 | ⟨h1, h2⟩
    · rw [if_pos h1, if_pos h1, h1]
      have : parOf f (fun i => if i = k then r else B i) k = some ⟨B (shPar f k), 0, none⟩ := by
        unfold parOf
        rw [if_neg (by omega)]
        show some (⟨if shPar f k = k then r else B (shPar f k), 0, none⟩ : Addr) = _
        rw [if_neg (by omega)]
      rw [this]
      exact rn
    · rw [hpar i h1, nB i h1]
      by_cases e : i = a
      · rw [e, nMa]; exact ra
      · rw [nM i h1 e]; exact (h.node i h1 h2).of_block (ro i h1 h2 e)
  · intro i l hi hl hn hm e
    have e : (if i = k then r else B i) = (if l = k then r else B l) := e
    rcases own' i hi hn with h1 | ⟨h1, h2⟩
    · rcases own' l hl hm with h3 | ⟨h3, h4⟩
      · omega
      · rw [if_pos h1, nB l h3] at e; exact absurd e.symm (hrB l h3)
    · rcases own' l hl hm with h3 | ⟨h3, h4⟩
      · rw [if_pos h3, nB i h1] at e; exact absurd e (hrB i h1)
      · rw [nB i h1, nB l h3] at e
        exact h.apart i l h1 h3 h2 h4 e
  · intro i m hi hn hm
    have hm : (if i = k then none else if i = a then some mm else M i) = some m := hm
    rcases own' i hi hn with h1 | ⟨h1, h2⟩
    · rw [if_pos h1] at hm; cases hm
    · by_cases e : i = a
      · rw [e, nMa] at hm; cases hm; exact hmm
      · rw [nM i h1 e] at hm; exact h.mbase i m h1 h2 hm
  · intro i l m hi hl hn hm e1 e2
    have e1 : (if i = k then none else if i = a then some mm else M i) = some m := e1
    have e2 : (if l = k then none else if l = a then some mm else M l) = some m := e2
    rcases own' i hi hn with h1 | ⟨h1, h2⟩
    · rw [if_pos h1] at e1; cases e1
    · rcases own' l hl hm with h3 | ⟨h3, h4⟩
      · rw [if_pos h3] at e2; cases e2
      · by_cases x : i = a
        · by_cases y : l = a
          · omega
          · rw [x, nMa] at e1
            cases e1
            rw [nM l h3 y] at e2
            exact absurd rfl (mo l _ h3 h4 y e2).2
        · by_cases y : l = a
          · rw [y, nMa] at e2
            cases e2
            rw [nM i h1 x] at e1
            exact absurd rfl (mo i _ h1 h2 x e1).2
          · rw [nM i h1 x] at e1
            rw [nM l h3 y] at e2
            exact h.mapart i l m h1 h3 h2 h4 e1 e2
  · intro i hi hn hm l h0 hl hnl
    have hm : (if i = k then none else if i = a then some mm else M i) = none := hm
    show (if shPar f l = k then k else N (shPar f l)) ≠ i
    have hpl := hpp' l h0 hl
    rw [nN _ hpl]
    rcases own' i hi hn with h1 | ⟨h1, h2⟩
    · have := h.le _ hpl; omega
    · have x : i ≠ a := fun x => by rw [x, nMa] at hm; cases hm
      rw [nM i h1 x] at hm
      rcases own' l hl hnl with h3 | ⟨h3, h4⟩
      · rw [h3, ← ha]; exact fun e => x e.symm
      · exact h.bare i h1 h2 hm l h0 h3 h4
  · intro i m hi hn hm
    have hm : (if i = k then none else if i = a then some mm else M i) = some m := hm
    rcases own' i hi hn with h1 | ⟨h1, h2⟩
    · rw [if_pos h1] at hm; cases hm
    · by_cases x : i = a
      · rw [x, nMa] at hm
        cases hm
        refine ⟨_, hM, fun v => ?_⟩
        show (∃ j, 0 < j ∧ j < k + 1 ∧ (if j = k then k else N j) = j ∧ (if shPar f j = k then k else N (shPar f j)) = i ∧ v = ShV (f j) ∧ (if v = ShV (f k) then Value.pointer (some ⟨r, 0, none⟩) else g v) = .pointer (some ⟨if j = k then r else B j, 0, none⟩)) ∨ ((if v = ShV (f k) then Value.pointer (some ⟨r, 0, none⟩) else g v) = .pointer none ∧ ∀ j, 0 < j → j < k + 1 → (if j = k then k else N j) = j → (if shPar f j = k then k else N (shPar f j)) = i → ShV (f j) ≠ v)
        by_cases e : v = ShV (f k)
        · refine .inl ⟨k, hk0, by omega, by rw [if_pos rfl], by rw [nN _ hp, ← ha, x], e, by rw [if_pos e, if_pos rfl]⟩
        · rw [if_neg e]
          rcases hK v with ⟨l, a1, a2, a3, a4, a5, a6⟩ | ⟨a1, a2⟩
          · have := hpp l a1 a2
            exact .inl ⟨l, a1, by omega, by rw [nN l a2]; exact a3, by rw [nN _ (by omega), x]; exact a4, a5, by rw [nB l a2]; exact a6⟩
          · refine .inr ⟨a1, fun l b1 b2 b3 b4 => ?_⟩
            rw [nN _ (hpp' l b1 b2)] at b4
            rcases own' l b2 b3 with h3 | ⟨h3, h4⟩
            · rw [h3]; exact fun e2 => e e2.symm
            · exact a2 l b1 h3 h4 (by rw [b4, x])
      · rw [nM i h1 x] at hm
        obtain ⟨g1, hg1, hK1⟩ := h.kids i m h1 h2 hm
        refine ⟨g1, (hg1.block (mo i m h1 h2 x hm).1).mono (Nat.le_succ _), fun v => ?_⟩
        rcases hK1 v with ⟨l, a1, a2, a3, a4, a5, a6⟩ | ⟨a1, a2⟩
        · have := hpp l a1 a2
          exact .inl ⟨l, a1, by omega, by show (if l = k then k else N l) = l; rw [nN l a2]; exact a3, by show (if shPar f l = k then k else N (shPar f l)) = i; rw [nN _ (by omega)]; exact a4, a5, by show _ = Value.pointer (some ⟨if l = k then r else B l, 0, none⟩); rw [nB l a2]; exact a6⟩
        · refine .inr ⟨a1, fun l b1 b2 b3 b4 => ?_⟩
          have b4 : (if shPar f l = k then k else N (shPar f l)) = i := b4
          rw [nN _ (hpp' l b1 b2)] at b4
          rcases own' l b2 b3 with h3 | ⟨h3, h4⟩
          · rw [h3, ← ha] at b4; exact absurd b4.symm x
          · exact a2 l b1 h3 h4 b4
end Go.Proofs.YtfceeijdmilieaaGreat
namespace Go.Proofs.YtfceeijdmilieaaGreat
open Go.RowKit
open Go.Maps (Keyed)
set_option linter.unusedVariables false

theorem laidOutN : laidOutB Tryz.prog = true := by kernel_rfl
theorem rowShape : 79 < Tryz.prog.types.size := of_decide_eq_true (by kernel_rfl)
set_option maxRecDepth 100000 in
theorem shapeKey : Tryz.prog.keyTypeAt 2 79 = true := by kernel_rfl
theorem shapeLaw : Keyed Tryz.prog 79 := Keyed.of_law (deep_law_laid laidOutN (m := 2) (by omega) rowShape shapeKey (by rw [Tryz.underlying79]))
theorem zeroNode (w : World) : (zeroValue 123).run Tryz.prog w = .ok (.pointer none) w := by kernel_rfl

theorem keyLits3 {P : Program} {k ti ts : TypeId} {fs : Array Field} {f0 f1 f2 : Field} (hu : P.underlying k = some (.struct fs)) (hfs : fs = #[f0, f1, f2]) (hi : P.underlying ti = some (.int .i64)) (hs : P.underlying ts = some .string)
    (hc : P.cellsOf k = 3) (hci : P.cellsOf ti = 1) (hcs : P.cellsOf ts = 1) (t0 : f0.type = ti) (t1 : f1.type = ts) (t2 : f2.type = ti) (o0 : f0.offset = 0) (o1 : f1.offset = 1) (o2 : f2.offset = 2)
    (n0 : f0.name != "_") (n1 : f1.name != "_") (n2 : f2.name != "_") (s : Shp) (h1 : (Lit.int .i64 s.parent).wf = true) (h2 : s.key.size ≤ maxLen) (h3 : (Lit.int .i64 s.count).wf = true) (n : Nat) :
    P.keyLits (n + 2) k [.int .i64 s.parent, .string s.key, .int .i64 s.count] = some [.int .i64 s.parent, .string s.key.data.toList, .int .i64 s.count] := by
  subst hfs
  have a0 : P.keyLits (n + 1) ti [.int .i64 s.parent] = some [.int .i64 s.parent] := by unfold Program.keyLits; simp [hi, h1]
  have a1 : P.keyLits (n + 1) ts [.string s.key] = some [.string s.key.data.toList] := by unfold Program.keyLits; simp [hs, h2]
  have a2 : P.keyLits (n + 1) ti [.int .i64 s.count] = some [.int .i64 s.count] := by unfold Program.keyLits; simp [hi, h3]
  have m0 : f0.name ≠ "_" := by simpa using n0
  have m1 : f1.name ≠ "_" := by simpa using n1
  have m2 : f2.name ≠ "_" := by simpa using n2
  rw [Program.keyLits.eq_def]
  simp [hu, hc, t0, t1, t2, o0, o1, o2, hci, hcs, a0, a1, a2, m0, m1, m2]

theorem cellsShape : Tryz.prog.cellsOf 79 = 3 := by kernel_rfl
theorem cellsInt : Tryz.prog.cellsOf 3 = 1 := by kernel_rfl
theorem cellsStr : Tryz.prog.cellsOf 9 = 1 := by kernel_rfl
set_option maxRecDepth 100000 in
theorem shapeKeyed : Tryz.prog.keyType 79 = true := by kernel_rfl
theorem keyShape (s : Shp) (h1 : (Lit.int .i64 s.parent).wf = true) (h2 : s.key.size ≤ maxLen) (h3 : (Lit.int .i64 s.count).wf = true) : ∃ kl, keyOf Tryz.prog 79 (ShV s) = some kl := by
  have hn : 1 < Tryz.prog.types.size := of_decide_eq_true (by kernel_rfl)
  obtain ⟨n, hn⟩ : ∃ n, Tryz.prog.types.size + 1 = n + 2 := ⟨Tryz.prog.types.size - 1, by omega⟩
  have hf : (ShV s).formed Tryz.prog 79 = true := by simp [Value.formed, Tryz.underlying79, cellsShape]
  have hl := keyLits3 Tryz.underlying79 rfl Tryz.underlying3 Tryz.underlying9 cellsShape cellsInt cellsStr rfl rfl rfl rfl rfl rfl rfl rfl rfl s h1 h2 h3 n
  rw [← hn] at hl
  have hcell : (ShV s).cells.toList = [.int .i64 s.parent, .string s.key, .int .i64 s.count] := rfl
  unfold keyOf
  rw [Tryz.underlying79]
  simp only [shapeKeyed, hf, Bool.and_self, if_true]
  rw [hcell, hl]
  exact ⟨_, rfl⟩
end Go.Proofs.YtfceeijdmilieaaGreat
namespace Go.Proofs.YtfceeijdmilieaaGreat
open Go.RowKit
open Go.Maps (Keyed)
set_option linter.unusedVariables false

abbrev NodesP (w : World) (f : Nat → Shp) (b0 k : Nat) (B N : Nat → Nat) (M : Nat → Option Nat) : Prop := Nodes Tryz.prog 79 144 w f b0 k B N M
abbrev GrownP (b0 : Nat) (w w' : World) : Prop := Grown 144 b0 w w'

theorem drewN_heap (w : World) (n : Nat) : (w.drewN n).heap = w.heap := rfl

theorem grown_drewN {a c : World} {row : Option Nat} (h : a.grownBy c row) (n : Nat) : a.grownBy (c.drewN n) row := ⟨h.os, h.tape, h.output, h.size, h.block⟩

theorem look_kid {w : World} {m n : Nat} {g : Value → Value} (h : MapIs Tryz.prog 79 w m n g) {s : Shp} (h1 : (Lit.int .i64 s.parent).wf = true) (h2 : s.key.size ≤ maxLen) (h3 : (Lit.int .i64 s.count).wf = true) :
    ∀ q, (Instr.lookup 142 (.map (some m)) (ShV s) false).run Tryz.prog (w.drewN q) = .ok (g (ShV s)) (w.drewN q) := by
  intro q
  obtain ⟨kl, hkl⟩ := keyShape s h1 h2 h3
  exact (h.block (w' := w.drewN q) rfl).look shapeLaw Tryz.underlying142 (zeroNode _) hkl

theorem look_none {w : World} {s : Shp} (h1 : (Lit.int .i64 s.parent).wf = true) (h2 : s.key.size ≤ maxLen) (h3 : (Lit.int .i64 s.count).wf = true) :
    ∀ q, (Instr.lookup 142 (.map none) (ShV s) false).run Tryz.prog (w.drewN q) = .ok (.pointer none) (w.drewN q) := by
  intro q
  obtain ⟨kl, hkl⟩ := keyShape s h1 h2 h3
  simpa using Maps.look_nil (w := w.drewN q) false shapeLaw Tryz.underlying142 (zeroNode _) hkl

set_option maxRecDepth 100000 in
set_option maxHeartbeats 1000000 in
theorem intern_found (w : World) (r br j : Nat) (m : Nat) (g : Value → Value) (n : Nat) (s : Shp) (num : Nat) (sp : Shp) (par : Option Addr) (pn : Nat)
    (hrow : w.rowIs br 144 6 (nodeCell pn sp par (some m))) (hmap : MapIs Tryz.prog 79 w m n g) (hg : g (ShV s) = .pointer (some ⟨r, 0, none⟩))
    (h1 : (Lit.int .i64 s.parent).wf = true) (h2 : s.key.size ≤ maxLen) (h3 : (Lit.int .i64 s.count).wf = true) :
    Calls Tryz.prog 74 #[.pointer (some ⟨br, 0, none⟩), ShV s, .int .i64 num] w fun e w' => e = .returned (.pointer (some ⟨r, 0, none⟩)) ∧ Below w.heap.size w w' := by
  have hl := World.rowIs.lt hrow
  have hmap' := hmap.block (w' := w.alloc (.cells #[.int .i64 s.parent, .string s.key, .int .i64 s.count] 79)) (by obtain ⟨es, c, hm⟩ := hmap.isMap; exact Deep.blk_alloc_lt _ _ _ (Array.getElem?_eq_some_iff.1 hm).1)
  have hlk := look_kid hmap' h1 h2 h3
  rw [hg] at hlk
  have c5 : w.cell? ⟨br, 5, none⟩ = some (.map (some m)) := hrow.cell (i := 5) (by omega)
  clear hmap hmap' hrow hg h1 h2 h3
  go_enter Tryz.func74, Tryz.ntmps74
  go_wp2
  go_quiet (fail)
  go_wp2
  go_ret
  exact ⟨rfl, below_drewN ((Below.refl _ _).alloc (Nat.le_refl _) _) _⟩

open Classical in
theorem put_kid {w : World} {m n : Nat} {g : Value → Value} (h : MapIs Tryz.prog 79 w m n g) (hn : n ≤ 1000) {s : Shp} (h1 : (Lit.int .i64 s.parent).wf = true) (h2 : s.key.size ≤ maxLen) (h3 : (Lit.int .i64 s.count).wf = true) (v : Value) :
    ∃ w', (Instr.mapUpdate 142 (.map (some m)) (ShV s) v).run Tryz.prog w = .ok () w' ∧ MapIs Tryz.prog 79 w' m (n + 1) (fun k => if k = ShV s then v else g k) ∧ w.grownBy w' (some m) := by
  obtain ⟨kl, hkl⟩ := keyShape s h1 h2 h3
  exact h.put shapeLaw Tryz.underlying142 (by unfold maxLen; omega) v hkl

open Classical in
set_option maxRecDepth 100000 in
set_option maxHeartbeats 1000000 in
theorem intern_more (w : World) (br : Nat) (m : Nat) (g : Value → Value) (n : Nat) (s : Shp) (num : Nat) (sp : Shp) (par : Option Addr) (pn : Nat) (hn : n ≤ 1000)
    (hrow : w.rowIs br 144 6 (nodeCell pn sp par (some m))) (hmap : MapIs Tryz.prog 79 w m n g) (hg : g (ShV s) = .pointer none)
    (h1 : (Lit.int .i64 s.parent).wf = true) (h2 : s.key.size ≤ maxLen) (h3 : (Lit.int .i64 s.count).wf = true) :
    Calls Tryz.prog 74 #[.pointer (some ⟨br, 0, none⟩), ShV s, .int .i64 num] w fun e w' => ∃ r, e = .returned (.pointer (some ⟨r, 0, none⟩)) ∧ w.heap.size ≤ r ∧ w'.rowIs r 144 6 (nodeCell num s (some ⟨br, 0, none⟩) none) ∧
      MapIs Tryz.prog 79 w' m (n + 1) (fun k => if k = ShV s then .pointer (some ⟨r, 0, none⟩) else g k) ∧ w.grownBy w' (some m) := by
  have hl := World.rowIs.lt hrow
  obtain ⟨es, cl, hm⟩ := hmap.isMap
  have hml : m < w.heap.size := (Array.getElem?_eq_some_iff.1 hm).1
  have hmap' := hmap.block (w' := w.alloc (.cells #[.int .i64 s.parent, .string s.key, .int .i64 s.count] 79)) (Deep.blk_alloc_lt _ _ _ hml)
  have hlk := look_kid hmap' h1 h2 h3
  rw [hg] at hlk
  have c5 : w.cell? ⟨br, 5, none⟩ = some (.map (some m)) := hrow.cell (i := 5) (by omega)
  have HM := hide hmap'
  have H1 := hide h1
  have H2 := hide h2
  have H3 := hide h3
  have qT : ∀ (w : World), (binOp .eql 142 (.map (some m)) (.map none)).run Tryz.prog w = .ok (.bool false) w := fun w => run_eql_map_nil w _ _ _ (some m) Tryz.underlying142
  clear hmap hmap' hrow hg h1 h2 h3 hm
  go_enter Tryz.func74, Tryz.ntmps74
  go_wp2
  go_quiet (fail)
  go_wp2
  obtain ⟨W1, hW1⟩ : ∃ W1, W1 = ((w.alloc (.cells #[.int .i64 s.parent, .string s.key, .int .i64 s.count] 79)).drewN nq).alloc (.cells #[.int .i64 num, .int .i64 s.parent, .string s.key, .int .i64 s.count, .pointer (some ⟨br, 0, none⟩), .map none] 144) := ⟨_, rfl⟩
  rw [← hW1]
  have hz1 : W1.heap.size = w.heap.size + 2 := by rw [hW1]; simp
  have hgr : w.grownBy W1 none := by rw [hW1]; exact (grown_drewN (World.grownBy_alloc w _ none) nq).trans (World.grownBy_alloc _ _ none)
  have d5 : W1.cell? ⟨br, 5, none⟩ = some (.map (some m)) := by rw [← c5]; exact World.cell?_of_block (hgr.block br hl (by simp))
  have x0 : W1.cell? ⟨w.heap.size, 0, none⟩ = some (.int .i64 s.parent) := by rw [hW1]; simp [go_sem]
  have x1 : W1.cell? ⟨w.heap.size, 1, none⟩ = some (.string s.key) := by rw [hW1]; simp [go_sem]
  have x2 : W1.cell? ⟨w.heap.size, 2, none⟩ = some (.int .i64 s.count) := by rw [hW1]; simp [go_sem]
  have hrn : W1.rowIs (w.heap.size + 1) 144 6 (nodeCell num s (some ⟨br, 0, none⟩) none) := by
    have := World.rowIs_alloc ((w.alloc (.cells #[.int .i64 s.parent, .string s.key, .int .i64 s.count] 79)).drewN nq) #[.int .i64 num, .int .i64 s.parent, .string s.key, .int .i64 s.count, .pointer (some ⟨br, 0, none⟩), .map none] 144 (nodeCell num s (some ⟨br, 0, none⟩) none) (fun i hi => by
      have : i < 6 := hi
      match i, this with
      | 0, _ => rfl
      | 1, _ => rfl
      | 2, _ => rfl
      | 3, _ => rfl
      | 4, _ => rfl
      | 5, _ => rfl)
    rw [hW1]
    simpa using this
  have hmp : MapIs Tryz.prog 79 W1.drew m n g := (unhide HM).block (by
    show W1.heap[m]? = _
    rw [hgr.block m hml (by simp)]
    exact (Deep.blk_alloc_lt _ _ _ hml).symm)
  obtain ⟨w2, hrun, hmap2, hg2⟩ := put_kid hmp hn (unhide H1) (unhide H2) (unhide H3) (.pointer (some ⟨w.heap.size + 1, 0, none⟩))
  have HG := hide (hgr.but (some m))
  have HG2 := hide hg2
  have HM2 := hide hmap2
  have HR := hide hrn
  clear hW1 hgr hrn hmp hmap2 hg2 HM hlk
  go_region
  go_wp2
  go_ret
  refine ⟨w.heap.size + 1, rfl, by omega, (unhide HR).of_block ((unhide HG2).block _ (by show _ < W1.heap.size; omega) (by simp; omega)), unhide HM2, (unhide HG).trans ?_⟩
  exact ⟨(unhide HG2).os, (unhide HG2).tape, (unhide HG2).output, (unhide HG2).size, (unhide HG2).block⟩

theorem row6 (w : World) (num : Nat) (s : Shp) (par : Option Addr) : (w.alloc (.cells #[.int .i64 num, .int .i64 s.parent, .string s.key, .int .i64 s.count, .pointer par, .map none] 144)).rowIs w.heap.size 144 6 (nodeCell num s par none) :=
  World.rowIs_alloc w _ 144 _ (fun i hi => by
      have : i < 6 := hi
      match i, this with
      | 0, _ => rfl
      | 1, _ => rfl
      | 2, _ => rfl
      | 3, _ => rfl
      | 4, _ => rfl
      | 5, _ => rfl)

theorem nodeCell_set (num : Nat) (s : Shp) (par : Option Addr) (o m : Option Nat) (i : Nat) (hi : i < 6) : (if i = 5 then Value.map m else nodeCell num s par o i) = nodeCell num s par m i := by
  match i, hi with
  | 0, _ => rfl
  | 1, _ => rfl
  | 2, _ => rfl
  | 3, _ => rfl
  | 4, _ => rfl
  | 5, _ => rfl

open Classical in
set_option maxRecDepth 100000 in
set_option maxHeartbeats 1000000 in
theorem intern_first (w : World) (br : Nat) (s : Shp) (num : Nat) (sp : Shp) (par : Option Addr) (pn : Nat)
    (hrow : w.rowIs br 144 6 (nodeCell pn sp par none))
    (h1 : (Lit.int .i64 s.parent).wf = true) (h2 : s.key.size ≤ maxLen) (h3 : (Lit.int .i64 s.count).wf = true) :
    Calls Tryz.prog 74 #[.pointer (some ⟨br, 0, none⟩), ShV s, .int .i64 num] w fun e w' => ∃ r mm, e = .returned (.pointer (some ⟨r, 0, none⟩)) ∧ w.heap.size ≤ r ∧ w.heap.size ≤ mm ∧ w'.rowIs r 144 6 (nodeCell num s (some ⟨br, 0, none⟩) none) ∧
      w'.rowIs br 144 6 (nodeCell pn sp par (some mm)) ∧
      MapIs Tryz.prog 79 w' mm 1 (fun k => if k = ShV s then .pointer (some ⟨r, 0, none⟩) else .pointer none) ∧ w.grownBy w' (some br) := by
  have hl := World.rowIs.lt hrow
  have hlk := look_none (w := w.alloc (.cells #[.int .i64 s.parent, .string s.key, .int .i64 s.count] 79)) h1 h2 h3
  have c5 : w.cell? ⟨br, 5, none⟩ = some (.map none) := hrow.cell (i := 5) (by omega)
  have f5 : w.frozen? ⟨br, 5, none⟩ = false := hrow.frozen 5
  have hmm := @run_makeMap Tryz.prog
  have HW := hide hrow
  have H1 := hide h1
  have H2 := hide h2
  have H3 := hide h3
  have qT : ∀ (w : World), (binOp .eql 142 (.map none) (.map none)).run Tryz.prog w = .ok (.bool true) w := fun w => run_eql_map_nil w _ _ _ none Tryz.underlying142
  clear hrow h1 h2 h3
  go_enter Tryz.func74, Tryz.ntmps74
  go_wp2
  go_quiet (fail)
  go_wp2
  obtain ⟨W1, hW1⟩ : ∃ W1, W1 = ((((w.alloc (.cells #[.int .i64 s.parent, .string s.key, .int .i64 s.count] 79)).drewN nq).setCell ⟨br, 5, none⟩ (.map (some (w.heap.size + 1)))).alloc (.map #[] 0)).alloc (.cells #[.int .i64 num, .int .i64 s.parent, .string s.key, .int .i64 s.count, .pointer (some ⟨br, 0, none⟩), .map none] 144) := ⟨_, rfl⟩
  rw [← hW1]
  have hz1 : W1.heap.size = w.heap.size + 3 := by rw [hW1]; simp
  have ga : w.grownBy ((w.alloc (.cells #[.int .i64 s.parent, .string s.key, .int .i64 s.count] 79)).drewN nq) none := grown_drewN (World.grownBy_alloc w _ none) nq
  have ra := (unhide HW).of_block (ga.block br hl (by simp))
  have rb := (ra.set 5 (.map (some (w.heap.size + 1)))).congr (fun i hi => nodeCell_set pn sp par none (some (w.heap.size + 1)) i hi)
  have gb : w.grownBy (((w.alloc (.cells #[.int .i64 s.parent, .string s.key, .int .i64 s.count] 79)).drewN nq).setCell ⟨br, 5, none⟩ (.map (some (w.heap.size + 1)))) (some br) :=
    ⟨ga.os, ga.tape, ga.output, by simp, fun i hi hne => by rw [Deep.blk_setCell_other _ _ _ _ (fun e => hne (by rw [e]))]; exact ga.block i hi (by simp)⟩
  have hgr : w.grownBy W1 (some br) := by rw [hW1]; exact (gb.trans (World.grownBy_alloc _ _ _)).trans (World.grownBy_alloc _ _ _)
  have rbr : W1.rowIs br 144 6 (nodeCell pn sp par (some (w.heap.size + 1))) := by rw [hW1]; exact (rb.alloc _).alloc _
  have d5 : W1.cell? ⟨br, 5, none⟩ = some (.map (some (w.heap.size + 1))) := rbr.cell (i := 5) (by omega)
  have x0 : W1.cell? ⟨w.heap.size, 0, none⟩ = some (.int .i64 s.parent) := by rw [hW1]; simp [go_sem]
  have x1 : W1.cell? ⟨w.heap.size, 1, none⟩ = some (.string s.key) := by rw [hW1]; simp [go_sem]
  have x2 : W1.cell? ⟨w.heap.size, 2, none⟩ = some (.int .i64 s.count) := by rw [hW1]; simp [go_sem]
  have hrn : W1.rowIs (w.heap.size + 2) 144 6 (nodeCell num s (some ⟨br, 0, none⟩) none) := by
    have := row6 ((((w.alloc (.cells #[.int .i64 s.parent, .string s.key, .int .i64 s.count] 79)).drewN nq).setCell ⟨br, 5, none⟩ (.map (some (w.heap.size + 1)))).alloc (.map #[] 0)) num s (some ⟨br, 0, none⟩)
    rw [hW1]
    simpa using this
  have hmp : MapIs Tryz.prog 79 W1.drew (w.heap.size + 1) 0 (fun _ => .pointer none) := by
    have h0 := MapIs.made Tryz.prog 79 (((w.alloc (.cells #[.int .i64 s.parent, .string s.key, .int .i64 s.count] 79)).drewN nq).setCell ⟨br, 5, none⟩ (.map (some (w.heap.size + 1))))
    have hz : (((w.alloc (.cells #[.int .i64 s.parent, .string s.key, .int .i64 s.count] 79)).drewN nq).setCell ⟨br, 5, none⟩ (.map (some (w.heap.size + 1)))).heap.size = w.heap.size + 1 := by simp
    rw [hz] at h0
    refine h0.block ?_
    show W1.heap[w.heap.size + 1]? = _
    rw [hW1]
    exact Deep.blk_alloc_lt _ _ _ (by simp)
  obtain ⟨w2, hrun, hmap2, hg2⟩ := put_kid hmp (by omega) (unhide H1) (unhide H2) (unhide H3) (.pointer (some ⟨w.heap.size + 1 + 1, 0, none⟩))
  have HG := hide hgr
  have HG2 := hide hg2
  have HM2 := hide hmap2
  have HR := hide hrn
  have HRB := hide rbr
  clear hW1 hgr hrn hmp hmap2 hg2 hlk ga ra rb gb rbr HW
  go_region
  go_wp2
  go_ret
  refine ⟨w.heap.size + 2, w.heap.size + 1, rfl, by omega, by omega, (unhide HR).of_block ((unhide HG2).block _ (by show _ < W1.heap.size; omega) (by simp)), (unhide HRB).of_block ((unhide HG2).block _ (by show _ < W1.heap.size; omega) (by simp; omega)), unhide HM2, ?_⟩
  refine World.grownBy.andThen (unhide HG) (row' := some (w.heap.size + 1)) ?_ (fun j hj => by cases hj; exact .inl (by omega))
  exact ⟨(unhide HG2).os, (unhide HG2).tape, (unhide HG2).output, (unhide HG2).size, (unhide HG2).block⟩
end Go.Proofs.YtfceeijdmilieaaGreat
namespace Go.Proofs.YtfceeijdmilieaaGreat
open Go.RowKit
open Go.Maps (Keyed)
set_option linter.unusedVariables false

theorem wf64 {x : Int} (h0 : -1000000 ≤ x) (h1 : x ≤ 1000000) : (Lit.int .i64 x).wf = true := WalkArith.wf_i64 (by omega)

theorem Nodes.lt {P : Program} {K Tn : TypeId} {w : World} {f : Nat → Shp} {b0 k : Nat} {B N : Nat → Nat} {M : Nat → Option Nat} (h : Nodes P K Tn w f b0 k B N M) {i : Nat} (hi : i < k) : B i < w.heap.size := by
  rw [← h.blk i hi]
  exact (h.node (N i) (Nat.lt_of_le_of_lt (h.le i hi) hi) (h.own i hi)).lt

theorem Grown.of_below {Tn b0 : Nat} {w w' : World} (h : Below w.heap.size w w') : Grown Tn b0 w w' := ⟨h.os, h.tape, h.output, h.size, fun b hb _ => h.block b hb⟩

theorem Grown.of_grownBy {Tn b0 : Nat} {w w' : World} {x : Nat} (h : w.grownBy w' (some x)) (hx : b0 ≤ x) (hn : Nodal Tn w x) : Grown Tn b0 w w' :=
  ⟨h.os, h.tape, h.output, h.size, fun b hb hc => h.block b hb (fun e => by
    cases e
    rcases hc with hc | hc
    · omega
    · exact hc hn)⟩

theorem fresh_no {P : Program} {K Tn : TypeId} {w : World} {f : Nat → Shp} {b0 k : Nat} {B N : Nat → Nat} {M : Nat → Option Nat} (h : Nodes P K Tn w f b0 k B N M) (h2 : Rule2 f) (hk3 : Ok3 f k)
    (hno : ∀ j, 0 < j → j < k → N j = j → N (shPar f j) = N (shPar f k) → f j ≠ f k) : ∀ j, j < k → f j ≠ f k := by
  intro j hj e
  have e1 : f (N j) = f k := (h.same j hj).trans e
  have hlt : N j < k := Nat.lt_of_le_of_lt (h.le j hj) hj
  have h0 : 0 < N j := by
    rcases Nat.eq_zero_or_pos (N j) with e0 | e0
    · have := h2.1
      rw [e0] at e1
      rw [e1] at this
      have := hk3.1
      omega
    · exact e0
  exact hno (N j) h0 hlt (h.own j hj) (by unfold shPar; rw [e1]) e1

open Classical in
set_option maxHeartbeats 1000000 in
theorem intern_any (w : World) (f : Nat → Shp) (b0 k : Nat) (B N : Nat → Nat) (M : Nat → Option Nat) (h : NodesP w f b0 k B N M) (hk : k ≤ 200) (h2 : Rule2 f) (h3 : ∀ i, 1 ≤ i → i ≤ k → Ok3 f i) :
    Calls Tryz.prog 74 #[.pointer (some ⟨B (shPar f k), 0, none⟩), ShV (f k), .int .i64 k] w fun e w' => ∃ r B' N' M', e = .returned (.pointer (some ⟨r, 0, none⟩)) ∧ NodesP w' f b0 (k + 1) B' N' M' ∧ B' k = r ∧ (∀ i, i < k → B' i = B i) ∧ GrownP b0 w w' := by
  have hk0 := h.pos
  have hk3 := h3 k hk0 (Nat.le_refl _)
  obtain ⟨p0, p1, cc, c12, ks⟩ := h3 k hk0 (Nat.le_refl _)
  have hp : shPar f k < k := by unfold shPar; omega
  have hpp : ∀ i, 0 < i → i < k → shPar f i < i := fun i h0 hi => by
    obtain ⟨a, b, _⟩ := h3 i h0 (by omega)
    unfold shPar; omega
  have hcb := count_bound (k := k) h2 (fun j h1 h4 => h3 j h1 (by omega)) (shPar f k) hp
  have w1 : (Lit.int .i64 (f k).parent).wf = true := wf64 (by omega) (by omega)
  have w2 : (f k).key.size ≤ maxLen := by unfold maxLen; omega
  have w3 : (Lit.int .i64 (f k).count).wf = true := wf64 (by unfold shPar at hcb; omega) (by omega)
  obtain ⟨a, ha⟩ : ∃ a, a = N (shPar f k) := ⟨_, rfl⟩
  have hak : a < k := by rw [ha]; exact Nat.lt_of_le_of_lt (h.le _ hp) hp
  have hNa : N a = a := by rw [ha]; exact h.own _ hp
  have hB : B (shPar f k) = B a := by rw [ha]; exact (h.blk _ hp).symm
  have hrow := h.node a hak hNa
  have hb0 : ∀ x, w.heap.size ≤ x → b0 ≤ x := fun x hx => Nat.le_trans (h.base 0 hk0) (Nat.le_trans (Nat.le_of_lt (h.lt hk0)) hx)
  have nod : ∀ i, i < k → N i = i → Nodal 144 w (B i) := fun i hi hn => by obtain ⟨c, hb, _⟩ := h.node i hi hn; exact .inl ⟨c, hb⟩
  cases hM : M a with
  | none =>
    rw [hM] at hrow
    rw [hB]
    refine (intern_first w (B a) (f k) k (f a) _ a hrow w1 w2 w3).mono ?_
    rintro e w' ⟨r, mm, rfl, hr, hmm, rn, ra, hm, hg⟩
    have hno := fresh_no h h2 hk3 (fun j h0 hj hn hp2 _ => h.bare a hak hNa hM j h0 hj hn (by rw [hp2, ha]))
    refine ⟨r, _, _, _, rfl, h.fresh hp hpp hno (g := fun _ => .pointer none) ha ra (fun i hi hn hne => hg.block _ (h.lt hi) (fun e => ?_)) (fun i m hi hn hne hm => ?_) (by rw [hB]; exact rn) (hb0 r hr) (fun i hi e => ?_) (hb0 mm hmm) (fun v => .inr ⟨rfl, fun j h0 hj hn hp2 => absurd hp2 (h.bare a hak hNa hM j h0 hj hn)⟩) (hm.mono (by omega)), by simp, fun i hi => by simp; omega, Grown.of_grownBy hg (h.base a hak) (nod a hak hNa)⟩
    · exact hne (h.apart i a hi hak hn hNa (Option.some.inj e))
    · obtain ⟨g, hgm, _⟩ := h.kids i m hi hn hm
      obtain ⟨es, c, hbm⟩ := hgm.isMap
      have hml : m < w.heap.size := (Array.getElem?_eq_some_iff.1 hbm).1
      refine ⟨hg.block m hml (fun e => ?_), by omega⟩
      cases e
      obtain ⟨c, hb, _⟩ := hrow
      rw [hb] at hbm
      cases hbm
    · have := h.lt hi; omega
  | some m =>
    rw [hM] at hrow
    obtain ⟨g, hgm, hK⟩ := h.kids a m hak hNa hM
    obtain ⟨es, c, hbm⟩ := hgm.isMap
    have hml : m < w.heap.size := (Array.getElem?_eq_some_iff.1 hbm).1
    rw [hB]
    rcases hK (ShV (f k)) with ⟨j, j0, jk, jn, jp, jv, jg⟩ | ⟨jg, jno⟩
    · refine (intern_found w (B j) (B a) j m g k (f k) k (f a) _ a hrow hgm jg w1 w2 w3).mono ?_
      rintro e w' ⟨rfl, hb⟩
      have hbe : ∀ b, Nodal 144 w b → w'.heap[b]? = w.heap[b]? := fun b hb' => hb.block b (by
        rcases hb' with ⟨c, hc⟩ | ⟨es, c, hc⟩
        · exact (Array.getElem?_eq_some_iff.1 hc).1
        · exact (Array.getElem?_eq_some_iff.1 hc).1)
      exact ⟨B j, _, _, _, rfl, (h.keep hbe).found jk hp jn (ShV_inj jv).symm hpp, by simp, fun i hi => by simp; omega, Grown.of_below hb⟩
    · refine (intern_more w (B a) m g k (f k) k (f a) _ a (by omega) hrow hgm jg w1 w2 w3).mono ?_
      rintro e w' ⟨r, rfl, hr, rn, hm, hg⟩
      have hno := fresh_no h h2 hk3 (fun j h0 hj hn hp2 e => jno j h0 hj hn (by rw [hp2, ha]) (by rw [e]))
      have hma : ∀ i, i < k → N i = i → B i ≠ m := fun i hi hn e => by
        obtain ⟨c, hb, _⟩ := h.node i hi hn
        rw [e, hbm] at hb
        cases hb
      refine ⟨r, _, _, _, rfl, h.fresh hp hpp hno (g := g) (mm := m) ha (hrow.of_block (hg.block _ (h.lt hak) (fun e => hma a hak hNa (Option.some.inj e)))) (fun i hi hn hne => hg.block _ (h.lt hi) (fun e => hma i hi hn (Option.some.inj e))) (fun i m' hi hn hne hm' => ?_) (by rw [hB]; exact rn) (hb0 r hr) (fun i hi e => ?_) (h.mbase a m hak hNa hM) hK hm, by simp, fun i hi => by simp; omega, Grown.of_grownBy hg (h.mbase a m hak hNa hM) (.inr ⟨es, c, hbm⟩)⟩
      · obtain ⟨g', hgm', _⟩ := h.kids i m' hi hn hm'
        obtain ⟨es', c', hbm'⟩ := hgm'.isMap
        have hne' : m' ≠ m := fun e => hne (h.mapart i a m hi hak hn hNa (by rw [hm', e]) hM)
        exact ⟨hg.block m' (Array.getElem?_eq_some_iff.1 hbm').1 (fun e => hne' (Option.some.inj e)), hne'⟩
      · have := h.lt hi; omega
end Go.Proofs.YtfceeijdmilieaaGreat
