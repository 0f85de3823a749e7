/-
  Shapes: the nodes that the program plants, and what a map of kids holds.
-/
import Derived.Test.YtgiegkigfokdmabFoD
import Derived.Maps.Own
import Derived.Maps.OwnSet
import Derived.Maps.Views
import Derived.DeepKeys4
namespace Go.Proofs.Ytgiegkigfokdmab
open Go.RowKit
open Go.Maps (Keyed)
set_option linter.unusedVariables false

/-- An element of a map, read as itself. -/
def tokR (v : Value) : Option (DataW Value × List MemPlace) := some (.held v, [])

/-- Block m is a map of at most n entries whose look-ups answer g. -/
def MapIs (P : Program) (K : TypeId) (w : World) (m n : Nat) (g : Value → Value) : Prop :=
  ∃ D, w.ownsMap P K tokR m n D ∧ ∀ key kl, keyOf P K key = some kl → D.atKey kl (.held (.pointer none)) = .held (g key)

theorem MapIs.made (P : Program) (K : TypeId) (w : World) : MapIs P K (w.alloc (.map #[] 0)) w.heap.size 0 (fun _ => .pointer none) :=
  ⟨_, World.ownsMap_made w P K tokR, fun key kl h => rfl⟩

theorem MapIs.isMap {P : Program} {K : TypeId} {w : World} {m n : Nat} {g : Value → Value} (h : MapIs P K w m n g) : ∃ es c, w.heap[m]? = some (.map es c) := by
  obtain ⟨D, ⟨es, c, hb, _⟩, _⟩ := h
  exact ⟨es, c, hb⟩

theorem MapIs.block {P : Program} {K : TypeId} {w w' : World} {m n : Nat} {g : Value → Value} (h : MapIs P K w m n g) (e : w'.heap[m]? = w.heap[m]?) : MapIs P K w' m n g := by
  obtain ⟨D, ⟨es, c, hb, F, hs, hD⟩, hl⟩ := h
  exact ⟨D, ⟨es, c, e.trans hb, F, hs, hD⟩, hl⟩

theorem MapIs.mono {P : Program} {K : TypeId} {w : World} {m n n' : Nat} {g : Value → Value} (h : MapIs P K w m n g) (hn : n ≤ n') : MapIs P K w m n' g := by
  obtain ⟨D, ho, hl⟩ := h
  exact ⟨D, ho.mono hn, hl⟩

theorem MapIs.look {P : Program} {K t e : TypeId} {w : World} {m n : Nat} {g : Value → Value} (h : MapIs P K w m n g) (L : Keyed P K) (ht : P.underlying t = some (.map K e)) (hz : (zeroValue e).run P w = .ok (.pointer none) w) {key : Value} {kl : Lit} (hk : keyOf P K key = some kl) :
    (Instr.lookup t (.map (some m)) key false).run P w = .ok (g key) w := by
  obtain ⟨D, ho, hl⟩ := h
  obtain ⟨v, ps, hrun, hv⟩ := ho.lookup L ht hz (zd := .held (.pointer none)) (zp := []) rfl hk
  rw [hl key kl hk] at hv
  unfold tokR at hv
  simp at hv
  rw [hrun, hv.1]

open Classical in
theorem MapIs.put {P : Program} {K t e : TypeId} {w : World} {m n : Nat} {g : Value → Value} (h : MapIs P K w m n g) (L : Keyed P K) (ht : P.underlying t = some (.map K e)) (hn : n < maxLen) {key : Value} (val : Value) {kl : Lit} (hk : keyOf P K key = some kl) :
    ∃ w', (Instr.mapUpdate t (.map (some m)) key val).run P w = .ok () w' ∧ MapIs P K w' m (n + 1) (fun k => if k = key then val else g k) ∧ w.grownBy w' (some m) := by
  obtain ⟨D, ho, hl⟩ := h
  obtain ⟨w', hrun, ho', hg⟩ := ho.update L ht hn hk (val := val) (d := .held val) (ps := []) rfl
  refine ⟨w', hrun, ⟨_, ho', fun k' kl' hk' => ?_⟩, hg⟩
  by_cases e : k' = key
  · subst e
    have : kl' = kl := by rw [hk] at hk'; exact (Option.some.inj hk').symm
    subst this
    show _ = DataW.held (if k' = k' then val else g k')
    rw [if_pos rfl]
    exact Maps.atKey_put_same ho.isMap (L.key hk) _ _
  · show _ = DataW.held (if k' = key then val else g k')
    rw [if_neg e, Maps.atKey_put_other (fun e2 => e (L.inj hk' (by rw [e2]; exact hk)))]
    exact hl k' kl' hk'

/-- Node number i of shape s, its parent and its kids. -/
def nodeCell (i : Nat) (s : Shp) (par : Option Addr) (m : Option Nat) : Nat → Value
  | 0 => .int .i64 i
  | 1 => .int .i64 s.parent
  | 2 => .string s.key
  | 3 => .int .i64 s.count
  | 4 => .pointer par
  | _ => .map m

abbrev ShV (s : Shp) : Value := Sh s.parent s.key s.count
abbrev shPar (f : Nat → Shp) (i : Nat) : Nat := (f i).parent.toNat

theorem ShV_inj {a b : Shp} (h : ShV a = ShV b) : a = b := by
  cases a; cases b
  simp at h
  simp [h]

/-- What the kids of node i are. -/
def Kids (f : Nat → Shp) (k : Nat) (B N : Nat → Nat) (i : Nat) (g : Value → Value) : Prop :=
  ∀ v, (∃ j, 0 < j ∧ j < k ∧ N j = j ∧ N (shPar f j) = i ∧ v = ShV (f j) ∧ g v = .pointer (some ⟨B j, 0, none⟩)) ∨
    (g v = .pointer none ∧ ∀ j, 0 < j → j < k → N j = j → N (shPar f j) = i → ShV (f j) ≠ v)

def parOf (f : Nat → Shp) (B : Nat → Nat) (i : Nat) : Option Addr := if i = 0 then none else some ⟨B (shPar f i), 0, none⟩

/-- The nodes of the first k shapes. -/
structure Nodes (P : Program) (K Tn : TypeId) (w : World) (f : Nat → Shp) (b0 k : Nat) (B N : Nat → Nat) (M : Nat → Option Nat) : Prop where
  pos : 0 < k
  n0 : N 0 = 0
  le : ∀ i, i < k → N i ≤ i
  own : ∀ i, i < k → N (N i) = N i
  same : ∀ i, i < k → f (N i) = f i
  one : ∀ i j, i < k → j < k → f i = f j → N i = N j
  blk : ∀ i, i < k → B (N i) = B i
  base : ∀ i, i < k → b0 ≤ B i
  node : ∀ i, i < k → N i = i → w.rowIs (B i) Tn 6 (nodeCell i (f i) (parOf f B i) (M i))
  apart : ∀ i j, i < k → j < k → N i = i → N j = j → B i = B j → i = j
  mbase : ∀ i m, i < k → N i = i → M i = some m → b0 ≤ m
  mapart : ∀ i j m, i < k → j < k → N i = i → N j = j → M i = some m → M j = some m → i = j
  bare : ∀ i, i < k → N i = i → M i = none → ∀ j, 0 < j → j < k → N j = j → N (shPar f j) ≠ i
  kids : ∀ i m, i < k → N i = i → M i = some m → ∃ g, MapIs P K w m k g ∧ Kids f k B N i g

/-- A block that belongs to nodes: one of theirs, or a map. -/
def Nodal (Tn : TypeId) (w : World) (b : Nat) : Prop := (∃ c, w.heap[b]? = some (.cells c Tn (0, 0))) ∨ ∃ es c, w.heap[b]? = some (.map es c)

theorem Nodes.keep {P : Program} {K Tn : TypeId} {w w' : World} {f : Nat → Shp} {b0 k : Nat} {B N : Nat → Nat} {M : Nat → Option Nat} (h : Nodes P K Tn w f b0 k B N M) (hk : ∀ b, Nodal Tn w b → w'.heap[b]? = w.heap[b]?) : Nodes P K Tn w' f b0 k B N M :=
  { h with
    node := fun i hi hn => (h.node i hi hn).of_block (hk _ (by obtain ⟨c, hb, _⟩ := h.node i hi hn; exact .inl ⟨c, hb⟩))
    kids := fun i m hi hn hm => by
      obtain ⟨g, hg, hK⟩ := h.kids i m hi hn hm
      exact ⟨g, hg.block (hk _ (.inr hg.isMap)), hK⟩ }

/-- Nothing but nodes' blocks from b0 on has turned. -/
structure Grown (Tn : TypeId) (b0 : Nat) (w w' : World) : Prop where
  os : w'.os = w.os
  tape : w'.tape = w.tape
  output : w'.output = w.output
  size : w.heap.size ≤ w'.heap.size
  block : ∀ b, b < w.heap.size → b < b0 ∨ ¬ Nodal Tn w b → w'.heap[b]? = w.heap[b]?

/-- The shape is there already. -/
theorem Nodes.found {P : Program} {K Tn : TypeId} {w : World} {f : Nat → Shp} {b0 k : Nat} {B N : Nat → Nat} {M : Nat → Option Nat} (h : Nodes P K Tn w f b0 k B N M) {j : Nat} (hj : j < k) (hp : shPar f k < k) (hNj : N j = j) (hs : f j = f k)
    (hpp : ∀ i, 0 < i → i < k → shPar f i < i) :
    Nodes P K Tn w f b0 (k + 1) (fun i => if i = k then B j else B i) (fun i => if i = k then j else N i) M := by
  have nB : ∀ i, i < k → (if i = k then B j else B i) = B i := fun i hi => if_neg (by omega)
  have nN : ∀ i, i < k → (if i = k then j else N i) = N i := fun i hi => if_neg (by omega)
  have own' : ∀ i, i < k + 1 → (if i = k then j else N i) = i → i < k ∧ N i = i := fun i hi e => by
    by_cases e2 : i = k
    · rw [if_pos e2] at e; omega
    · rw [if_neg e2] at e; exact ⟨by omega, e⟩
  have hpar : ∀ i, i < k → parOf f (fun i => if i = k then B j else B i) i = parOf f B i := fun i hi => by
    unfold parOf
    by_cases e : i = 0
    · simp [e]
    · have := hpp i (by omega) hi
      simp only [e, if_false]
      rw [if_neg (by omega)]
  constructor
  · exact Nat.succ_pos _
  · show (if 0 = k then j else N 0) = 0
    rw [nN 0 h.pos]; exact h.n0
  · intro i hi
    show (if i = k then j else N i) ≤ i
    split
    · omega
    · exact h.le i (by omega)
  · intro i hi
    show (if (if i = k then j else N i) = k then j else N (if i = k then j else N i)) = (if i = k then j else N i)
    by_cases e : i = k
    · rw [if_pos e, if_neg (by omega)]; exact hNj
    · rw [if_neg e, if_neg (by have := h.le i (by omega); omega)]; exact h.own i (by omega)
  · intro i hi
    show f (if i = k then j else N i) = f i
    by_cases e : i = k
    · rw [if_pos e, e]; exact hs
    · rw [if_neg e]; exact h.same i (by omega)
  · intro i l hi hl e
    show (if i = k then j else N i) = (if l = k then j else N l)
    by_cases e1 : i = k
    · by_cases e2 : l = k
      · rw [if_pos e1, if_pos e2]
      · rw [if_pos e1, if_neg e2, ← hNj]; exact h.one _ _ hj (by omega) (by rw [hs, ← e1]; exact e)
    · by_cases e2 : l = k
      · rw [if_neg e1, if_pos e2, ← hNj]; exact h.one _ _ (by omega) hj (by rw [hs, ← e2]; exact e)
      · rw [if_neg e1, if_neg e2]; exact h.one _ _ (by omega) (by omega) e
  · intro i hi
    show (if (if i = k then j else N i) = k then B j else B (if i = k then j else N i)) = (if i = k then B j else B i)
    by_cases e : i = k
    · rw [if_pos e, if_neg (by omega), if_pos e]
    · rw [if_neg e, if_neg (by have := h.le i (by omega); omega), if_neg e]; exact h.blk i (by omega)
  · intro i hi
    show b0 ≤ (if i = k then B j else B i)
    split
    · exact h.base j hj
    · exact h.base i (by omega)
  · intro i hi hn
    obtain ⟨h1, h2⟩ := own' i hi hn
    show w.rowIs (if i = k then B j else B i) Tn 6 _
    rw [hpar i h1, nB i h1]
    exact h.node i h1 h2
  · intro i l hi hl hn hm e
    obtain ⟨h1, h2⟩ := own' i hi hn
    obtain ⟨h3, h4⟩ := own' l hl hm
    have e : (if i = k then B j else B i) = (if l = k then B j else B l) := e
    rw [nB i h1, nB l h3] at e
    exact h.apart i l h1 h3 h2 h4 e
  · intro i m hi hn hm
    obtain ⟨h1, h2⟩ := own' i hi hn
    exact h.mbase i m h1 h2 hm
  · intro i l m hi hl hn hm e1 e2
    obtain ⟨h1, h2⟩ := own' i hi hn
    obtain ⟨h3, h4⟩ := own' l hl hm
    exact h.mapart i l m h1 h3 h2 h4 e1 e2
  · intro i hi hn hm l h0 hl hnl
    obtain ⟨h1, h2⟩ := own' i hi hn
    obtain ⟨h3, h4⟩ := own' l hl hnl
    show (if shPar f l = k then j else N (shPar f l)) ≠ i
    have := hpp l h0 h3
    rw [nN _ (by omega)]
    exact h.bare i h1 h2 hm l h0 h3 h4
  · intro i m hi hn hm
    obtain ⟨h1, h2⟩ := own' i hi hn
    obtain ⟨g, hg, hK⟩ := h.kids i m h1 h2 hm
    refine ⟨g, hg.mono (Nat.le_succ _), fun v => ?_⟩
    rcases hK v with ⟨l, a1, a2, a3, a4, a5, a6⟩ | ⟨a1, a2⟩
    · have := hpp l a1 a2
      exact .inl ⟨l, a1, by omega, by show (if l = k then j else N l) = l; rw [nN l a2]; exact a3, by show (if shPar f l = k then j else N (shPar f l)) = i; rw [nN _ (by omega)]; exact a4, a5, by show _ = Value.pointer (some ⟨if l = k then B j else B l, 0, none⟩); rw [nB l a2]; exact a6⟩
    · refine .inr ⟨a1, fun l b1 b2 b3 b4 => ?_⟩
      obtain ⟨h3, h4⟩ := own' l b2 b3
      have := hpp l b1 h3
      have b4 : (if shPar f l = k then j else N (shPar f l)) = i := b4
      rw [nN _ (by omega)] at b4
      exact a2 l b1 h3 h4 b4

open Classical in
/-- A new shape. -/
theorem Nodes.fresh {P : Program} {K Tn : TypeId} {w w' : World} {f : Nat → Shp} {b0 k : Nat} {B N : Nat → Nat} {M : Nat → Option Nat} (h : Nodes P K Tn w f b0 k B N M) (hp : shPar f k < k)
    (hpp : ∀ i, 0 < i → i < k → shPar f i < i) (hno : ∀ j, j < k → f j ≠ f k) {a r mm : Nat} {g : Value → Value} (ha : a = N (shPar f k))
    (ra : w'.rowIs (B a) Tn 6 (nodeCell a (f a) (parOf f B a) (some mm)))
    (ro : ∀ i, i < k → N i = i → i ≠ a → w'.heap[B i]? = w.heap[B i]?)
    (mo : ∀ i m, i < k → N i = i → i ≠ a → M i = some m → w'.heap[m]? = w.heap[m]? ∧ m ≠ mm)
    (rn : w'.rowIs r Tn 6 (nodeCell k (f k) (some ⟨B (shPar f k), 0, none⟩) none))
    (hr : b0 ≤ r) (hrB : ∀ i, i < k → B i ≠ r) (hmm : b0 ≤ mm) (hK : Kids f k B N a g)
    (hM : MapIs P K w' mm (k + 1) (fun v => if v = ShV (f k) then .pointer (some ⟨r, 0, none⟩) else g v)) :
    Nodes P K Tn w' f b0 (k + 1) (fun i => if i = k then r else B i) (fun i => if i = k then k else N i) (fun i => if i = k then none else if i = a then some mm else M i) := by
  have hak : a < k := by rw [ha]; exact Nat.lt_of_le_of_lt (h.le _ hp) hp
  have hNa : N a = a := by rw [ha]; exact h.own _ hp
  have hk0 := h.pos
  have nB : ∀ i, i < k → (if i = k then r else B i) = B i := fun i hi => if_neg (by omega)
  have nN : ∀ i, i < k → (if i = k then k else N i) = N i := fun i hi => if_neg (by omega)
  have nM : ∀ i, i < k → i ≠ a → (if i = k then none else if i = a then some mm else M i) = M i := fun i hi ha => by rw [if_neg (by omega), if_neg ha]
  have nMa : (if a = k then none else if a = a then some mm else M a) = some mm := by rw [if_neg (by omega), if_pos rfl]
  have own' : ∀ i, i < k + 1 → (if i = k then k else N i) = i → i = k ∨ i < k ∧ N i = i := fun i hi e => by
    by_cases e2 : i = k
    · exact .inl e2
    · rw [if_neg e2] at e; exact .inr ⟨by omega, e⟩
  have hpar : ∀ i, i < k → parOf f (fun i => if i = k then r else B i) i = parOf f B i := fun i hi => by
    unfold parOf
    by_cases e : i = 0
    · simp [e]
    · have := hpp i (by omega) hi
      simp only [e, if_false]
      rw [if_neg (by omega)]
  have hpp' : ∀ i, 0 < i → i < k + 1 → shPar f i < k := fun i h0 hi => by
    by_cases e : i = k
    · rw [e]; exact hp
    · have := hpp i h0 (by omega); omega
  constructor
  · exact Nat.succ_pos _
  · show (if 0 = k then k else N 0) = 0
    rw [nN 0 h.pos]; exact h.n0
  · intro i hi
    show (if i = k then k else N i) ≤ i
    split
    · omega
    · exact h.le i (by omega)
  · intro i hi
    show (if (if i = k then k else N i) = k then k else N (if i = k then k else N i)) = (if i = k then k else N i)
    by_cases e : i = k
    · rw [if_pos e, if_pos rfl]
    · rw [if_neg e, if_neg (by have := h.le i (by omega); omega)]; exact h.own i (by omega)
  · intro i hi
    show f (if i = k then k else N i) = f i
    by_cases e : i = k
    · rw [if_pos e, e]
    · rw [if_neg e]; exact h.same i (by omega)
  · intro i l hi hl e
    show (if i = k then k else N i) = (if l = k then k else N l)
    by_cases e1 : i = k
    · by_cases e2 : l = k
      · rw [if_pos e1, if_pos e2]
      · exact absurd (by rw [← e1]; exact e.symm) (hno l (by omega))
    · by_cases e2 : l = k
      · exact absurd (by rw [← e2]; exact e) (hno i (by omega))
      · rw [if_neg e1, if_neg e2]; exact h.one _ _ (by omega) (by omega) e
  · intro i hi
    show (if (if i = k then k else N i) = k then r else B (if i = k then k else N i)) = (if i = k then r else B i)
    by_cases e : i = k
    · rw [if_pos e, if_pos rfl, if_pos e]
    · rw [if_neg e, if_neg (by have := h.le i (by omega); omega), if_neg e]; exact h.blk i (by omega)
  · intro i hi
    show b0 ≤ (if i = k then r else B i)
    split
    · exact hr
    · exact h.base i (by omega)
  · intro i hi hn
    show w'.rowIs (if i = k then r else B i) Tn 6 (nodeCell i (f i) (parOf f (fun i => if i = k then r else B i) i) (if i = k then none else if i = a then some mm else M i))
    rcases own' i hi hn with h1 | ⟨h1, h2⟩
    · rw [if_pos h1, if_pos h1, h1]
      have : parOf f (fun i => if i = k then r else B i) k = some ⟨B (shPar f k), 0, none⟩ := by
        unfold parOf
        rw [if_neg (by omega)]
        show some (⟨if shPar f k = k then r else B (shPar f k), 0, none⟩ : Addr) = _
        rw [if_neg (by omega)]
      rw [this]
      exact rn
    · rw [hpar i h1, nB i h1]
      by_cases e : i = a
      · rw [e, nMa]; exact ra
      · rw [nM i h1 e]; exact (h.node i h1 h2).of_block (ro i h1 h2 e)
  · intro i l hi hl hn hm e
    have e : (if i = k then r else B i) = (if l = k then r else B l) := e
    rcases own' i hi hn with h1 | ⟨h1, h2⟩
    · rcases own' l hl hm with h3 | ⟨h3, h4⟩
      · omega
      · rw [if_pos h1, nB l h3] at e; exact absurd e.symm (hrB l h3)
    · rcases own' l hl hm with h3 | ⟨h3, h4⟩
      · rw [if_pos h3, nB i h1] at e; exact absurd e (hrB i h1)
      · rw [nB i h1, nB l h3] at e
        exact h.apart i l h1 h3 h2 h4 e
  · intro i m hi hn hm
    have hm : (if i = k then none else if i = a then some mm else M i) = some m := hm
    rcases own' i hi hn with h1 | ⟨h1, h2⟩
    · rw [if_pos h1] at hm; cases hm
    · by_cases e : i = a
      · rw [e, nMa] at hm; cases hm; exact hmm
      · rw [nM i h1 e] at hm; exact h.mbase i m h1 h2 hm
  · intro i l m hi hl hn hm e1 e2
    have e1 : (if i = k then none else if i = a then some mm else M i) = some m := e1
    have e2 : (if l = k then none else if l = a then some mm else M l) = some m := e2
    rcases own' i hi hn with h1 | ⟨h1, h2⟩
    · rw [if_pos h1] at e1; cases e1
    · rcases own' l hl hm with h3 | ⟨h3, h4⟩
      · rw [if_pos h3] at e2; cases e2
      · by_cases x : i = a
        · by_cases y : l = a
          · omega
          · rw [x, nMa] at e1
            cases e1
            rw [nM l h3 y] at e2
            exact absurd rfl (mo l _ h3 h4 y e2).2
        · by_cases y : l = a
          · rw [y, nMa] at e2
            cases e2
            rw [nM i h1 x] at e1
            exact absurd rfl (mo i _ h1 h2 x e1).2
          · rw [nM i h1 x] at e1
            rw [nM l h3 y] at e2
            exact h.mapart i l m h1 h3 h2 h4 e1 e2
  · intro i hi hn hm l h0 hl hnl
    have hm : (if i = k then none else if i = a then some mm else M i) = none := hm
    show (if shPar f l = k then k else N (shPar f l)) ≠ i
    have hpl := hpp' l h0 hl
    rw [nN _ hpl]
    rcases own' i hi hn with h1 | ⟨h1, h2⟩
    · have := h.le _ hpl; omega
    · have x : i ≠ a := fun x => by rw [x, nMa] at hm; cases hm
      rw [nM i h1 x] at hm
      rcases own' l hl hnl with h3 | ⟨h3, h4⟩
      · rw [h3, ← ha]; exact fun e => x e.symm
      · exact h.bare i h1 h2 hm l h0 h3 h4
  · intro i m hi hn hm
    have hm : (if i = k then none else if i = a then some mm else M i) = some m := hm
    rcases own' i hi hn with h1 | ⟨h1, h2⟩
    · rw [if_pos h1] at hm; cases hm
    · by_cases x : i = a
      · rw [x, nMa] at hm
        cases hm
        refine ⟨_, hM, fun v => ?_⟩
        show (∃ j, 0 < j ∧ j < k + 1 ∧ (if j = k then k else N j) = j ∧ (if shPar f j = k then k else N (shPar f j)) = i ∧ v = ShV (f j) ∧ (if v = ShV (f k) then Value.pointer (some ⟨r, 0, none⟩) else g v) = .pointer (some ⟨if j = k then r else B j, 0, none⟩)) ∨ ((if v = ShV (f k) then Value.pointer (some ⟨r, 0, none⟩) else g v) = .pointer none ∧ ∀ j, 0 < j → j < k + 1 → (if j = k then k else N j) = j → (if shPar f j = k then k else N (shPar f j)) = i → ShV (f j) ≠ v)
        by_cases e : v = ShV (f k)
        · refine .inl ⟨k, hk0, by omega, by rw [if_pos rfl], by rw [nN _ hp, ← ha, x], e, by rw [if_pos e, if_pos rfl]⟩
        · rw [if_neg e]
          rcases hK v with ⟨l, a1, a2, a3, a4, a5, a6⟩ | ⟨a1, a2⟩
          · have := hpp l a1 a2
            exact .inl ⟨l, a1, by omega, by rw [nN l a2]; exact a3, by rw [nN _ (by omega), x]; exact a4, a5, by rw [nB l a2]; exact a6⟩
          · refine .inr ⟨a1, fun l b1 b2 b3 b4 => ?_⟩
            rw [nN _ (hpp' l b1 b2)] at b4
            rcases own' l b2 b3 with h3 | ⟨h3, h4⟩
            · rw [h3]; exact fun e2 => e e2.symm
            · exact a2 l b1 h3 h4 (by rw [b4, x])
      · rw [nM i h1 x] at hm
        obtain ⟨g1, hg1, hK1⟩ := h.kids i m h1 h2 hm
        refine ⟨g1, (hg1.block (mo i m h1 h2 x hm).1).mono (Nat.le_succ _), fun v => ?_⟩
        rcases hK1 v with ⟨l, a1, a2, a3, a4, a5, a6⟩ | ⟨a1, a2⟩
        · have := hpp l a1 a2
          exact .inl ⟨l, a1, by omega, by show (if l = k then k else N l) = l; rw [nN l a2]; exact a3, by show (if shPar f l = k then k else N (shPar f l)) = i; rw [nN _ (by omega)]; exact a4, a5, by show _ = Value.pointer (some ⟨if l = k then r else B l, 0, none⟩); rw [nB l a2]; exact a6⟩
        · refine .inr ⟨a1, fun l b1 b2 b3 b4 => ?_⟩
          have b4 : (if shPar f l = k then k else N (shPar f l)) = i := b4
          rw [nN _ (hpp' l b1 b2)] at b4
          rcases own' l b2 b3 with h3 | ⟨h3, h4⟩
          · rw [h3, ← ha] at b4; exact absurd b4.symm x
          · exact a2 l b1 h3 h4 b4
end Go.Proofs.Ytgiegkigfokdmab
