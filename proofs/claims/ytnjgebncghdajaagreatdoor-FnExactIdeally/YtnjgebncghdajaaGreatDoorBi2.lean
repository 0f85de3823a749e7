/-
  IdB, IdJ, IdL.
-/
import Derived.Test.YtnjgebncghdajaaGreatDoorIdAP
import Derived.Test.YtnjgebncghdajaaGreatDoorDcBP
namespace Go.Proofs.YtnjgebncghdajaaGreatDoor
open Go.RowKit
set_option linter.unusedVariables false

/-- The cells of n tables. -/
def tL (U : Nat → Value) (T : Nat → Pl) : Nat → List Value
  | 0 => []
  | k + 1 => tL U T k ++ [U k, .int .i64 (T k).turns]
theorem tL_length (U : Nat → Value) (T : Nat → Pl) (n : Nat) : (tL U T n).length = n * 2 := by
  induction n with
  | zero => rfl
  | succ n ih => simp [tL, ih]; omega
theorem tL_get {U : Nat → Value} {T : Nat → Pl} {n i j : Nat} (hi : i < n) (hj : j < 2) : (tL U T n)[i * 2 + j]? = [U i, .int .i64 (T i).turns][j]? := by
  induction n with
  | zero => omega
  | succ n ih =>
    show (tL U T n ++ [U n, .int .i64 (T n).turns])[i * 2 + j]? = _
    by_cases h : i < n
    · rw [List.getElem?_append_left (by rw [tL_length]; omega), ih h]
    · have : i = n := by omega
      subst this
      rw [List.getElem?_append_right (by rw [tL_length]; omega), tL_length, show i * 2 + j - i * 2 = j by omega]
theorem tL_congr {U U' : Nat → Value} {T T' : Nat → Pl} : ∀ {n : Nat}, (∀ i, i < n → U i = U' i ∧ (T i).turns = (T' i).turns) → tL U T n = tL U' T' n
  | 0, _ => rfl
  | n + 1, h => by
    show tL U T n ++ _ = tL U' T' n ++ _
    rw [tL_congr fun i hi => h i (by omega), (h n (by omega)).1, (h n (by omega)).2]
theorem tL_set0 {U : Nat → Value} {T : Nat → Pl} {n i : Nat} (hi : i < n) (u : Value) : (tL U T n).set (i * 2) u = tL (up1 U i u) T n := by
  apply List.ext_getElem?
  intro q
  rw [List.getElem?_set]
  by_cases hq : q < n * 2
  · obtain ⟨k, j, rfl, hj, hk⟩ : ∃ k j, q = k * 2 + j ∧ j < 2 ∧ k < n := ⟨q / 2, q % 2, by omega, by omega, by omega⟩
    rw [tL_get hk hj, tL_get hk hj, tL_length]
    by_cases e : i * 2 = k * 2 + j
    · have e1 : k = i := by omega
      have e2 : j = 0 := by omega
      subst e1 e2
      rw [if_pos (by omega), if_pos (by omega), up1_self]; rfl
    · rw [if_neg e]
      by_cases e1 : k = i
      · have e2 : j = 1 := by omega
        subst e1 e2; rfl
      · rw [up1_other _ _ e1]
  · rw [if_neg (by omega), List.getElem?_eq_none (by rw [tL_length]; omega), List.getElem?_eq_none (by rw [tL_length]; omega)]
theorem tL_set1 {U : Nat → Value} {T : Nat → Pl} {n i : Nat} (hi : i < n) (t' : Pl) : (tL U T n).set (i * 2 + 1) (.int .i64 t'.turns) = tL U (up1 T i t') n := by
  apply List.ext_getElem?
  intro q
  rw [List.getElem?_set]
  by_cases hq : q < n * 2
  · obtain ⟨k, j, rfl, hj, hk⟩ : ∃ k j, q = k * 2 + j ∧ j < 2 ∧ k < n := ⟨q / 2, q % 2, by omega, by omega, by omega⟩
    rw [tL_get hk hj, tL_get hk hj, tL_length]
    by_cases e : i * 2 + 1 = k * 2 + j
    · have e1 : k = i := by omega
      have e2 : j = 1 := by omega
      subst e1 e2
      rw [if_pos (by omega), if_pos (by omega), up1_self]; rfl
    · rw [if_neg e]
      by_cases e1 : k = i
      · have e2 : j = 0 := by omega
        subst e1 e2; rfl
      · rw [up1_other _ _ e1]
  · rw [if_neg (by omega), List.getElem?_eq_none (by rw [tL_length]; omega), List.getElem?_eq_none (by rw [tL_length]; omega)]
/-- The cells of n strings. -/
def sL (S : Nat → ByteArray) : Nat → List Value
  | 0 => []
  | k + 1 => sL S k ++ [.string (S k)]
theorem sL_length (S : Nat → ByteArray) (n : Nat) : (sL S n).length = n := by
  induction n with
  | zero => rfl
  | succ n ih => simp [sL, ih]
theorem sL_get {S : Nat → ByteArray} {n i : Nat} (hi : i < n) : (sL S n)[i]? = some (.string (S i)) := by
  induction n with
  | zero => omega
  | succ n ih =>
    show (sL S n ++ [.string (S n)])[i]? = _
    by_cases h : i < n
    · rw [List.getElem?_append_left (by rw [sL_length]; omega), ih h]
    · have : i = n := by omega
      subst this
      rw [List.getElem?_append_right (by rw [sL_length]; omega), sL_length]
      simp
theorem sL_congr {S S' : Nat → ByteArray} : ∀ {n : Nat}, (∀ i, i < n → S i = S' i) → sL S n = sL S' n
  | 0, _ => rfl
  | n + 1, h => by
    show sL S n ++ _ = sL S' n ++ _
    rw [sL_congr fun i hi => h i (by omega), h n (by omega)]

abbrev TOwn (w : World) (B : Nat) (v : Value) (n : Nat) (U : Nat → Value) (T : Nat → Pl) : Prop := w.ownsRow B 72 2 v n (tL U T n)
abbrev KOwn (w : World) (B : Nat) (v : Value) (n : Nat) (S : Nat → ByteArray) : Prop := w.ownsRow B 9 1 v n (sL S n)
theorem own_keep {w w' : World} {B : Nat} {e : TypeId} {size : Nat} {v : Value} {n : Nat} {xs : List Value} (h : w.ownsRow B e size v n xs) (hk : ∀ g, v.ownBlock = some g → w'.heap[g]? = w.heap[g]?) : w'.ownsRow B e size v n xs := by
  refine ⟨h.1, ?_⟩
  rcases h.2 with hn | ⟨g, cap, cur, hv, hb, hg, rest⟩
  · exact .inl hn
  · exact .inr ⟨g, cap, cur, hv, hb, (hk g (by rw [hv]; rfl)).trans hg, rest⟩

/-- What a desk at c owns. -/
def OwnD (c : Nat) (vT vS : Value) (U : Nat → Value) (n k : Nat) : Prop := k = c ∨ vT.ownBlock = some k ∨ vS.ownBlock = some k ∨ ∃ i, i < n ∧ (U i).ownBlock = some k
/-- What a step leaves alone. -/
structure Dst (O : Nat → Prop) (w : World) (O' : Nat → Prop) (w' : World) : Prop where
  os : w'.os = w.os
  tape : w'.tape = w.tape
  output : w'.output = w.output
  size : w.heap.size ≤ w'.heap.size
  block : ∀ k, k < w.heap.size → ¬ O k → w'.heap[k]? = w.heap[k]?
  own : ∀ k, O' k → O k ∨ w.heap.size ≤ k
theorem Dst.refl (O : Nat → Prop) (w : World) : Dst O w O w := ⟨rfl, rfl, rfl, Nat.le_refl _, fun _ _ _ => rfl, fun _ h => .inl h⟩
theorem Dst.trans {O O' O'' : Nat → Prop} {w w' w'' : World} (h : Dst O w O' w') (g : Dst O' w' O'' w'') : Dst O w O'' w'' :=
  ⟨g.os.trans h.os, g.tape.trans h.tape, g.output.trans h.output, Nat.le_trans h.size g.size,
    fun k hk hn => (g.block k (Nat.lt_of_lt_of_le hk h.size) (fun e => by
      rcases h.own k e with e | e
      · exact hn e
      · omega)).trans (h.block k hk hn),
    fun k e => by
      rcases g.own k e with e | e
      · exact h.own k e
      · exact .inr (Nat.le_trans h.size e)⟩
theorem Dst.below {O O' : Nat → Prop} {w w' w'' : World} (h : Dst O w O' w') (hb : Below w'.heap.size w' w'') : Dst O w O' w'' :=
  h.trans ⟨hb.os, hb.tape, hb.output, hb.size, fun k hk _ => hb.block k hk, fun _ h => .inl h⟩
theorem Dst.of_below {O : Nat → Prop} {w w' : World} (hb : Below w.heap.size w w') : Dst O w O w' := (Dst.refl O w).below hb

structure DeskM (ty : TypeId) (w : World) (c B : Nat) (vT vS : Value) (U : Nat → Value) (D : Ds) : Prop where
  base : B ≤ c
  blk : w.heap[c]? = some (.cells #[vT, vS] ty (0, 0))
  tb : TOwn w B vT D.nt U D.T
  pr : ∀ i, i < D.nt → POwn w B (U i) (D.T i).n (D.T i).P
  st : KOwn w B vS D.ns D.S
  tc : vT.ownBlock ≠ some c
  sc : vS.ownBlock ≠ some c
  uc : ∀ i, i < D.nt → (U i).ownBlock ≠ some c
  ts : ∀ g, vT.ownBlock = some g → vS.ownBlock ≠ some g
  tu : ∀ g i, vT.ownBlock = some g → i < D.nt → (U i).ownBlock ≠ some g
  su : ∀ g i, vS.ownBlock = some g → i < D.nt → (U i).ownBlock ≠ some g
  uu : ∀ g i j, i < D.nt → j < D.nt → i ≠ j → (U i).ownBlock = some g → (U j).ownBlock ≠ some g
theorem DeskM.lt {ty : TypeId} {w : World} {c B : Nat} {vT vS : Value} {U : Nat → Value} {D : Ds} (h : DeskM ty w c B vT vS U D) : c < w.heap.size := by
  rcases Nat.lt_or_ge c w.heap.size with h1 | h1
  · exact h1
  · have := h.blk; rw [Array.getElem?_eq_none h1] at this; cases this
theorem DeskM.rng {ty : TypeId} {w : World} {c B : Nat} {vT vS : Value} {U : Nat → Value} {D : Ds} (h : DeskM ty w c B vT vS U D) {k : Nat} (hk : OwnD c vT vS U D.nt k) : B ≤ k ∧ k < w.heap.size := by
  rcases hk with rfl | e | e | ⟨i, hi, e⟩
  · exact ⟨h.base, h.lt⟩
  · exact h.tb.lt k e
  · exact h.st.lt k e
  · exact (h.pr i hi).lt k e
theorem DeskM.keep {ty : TypeId} {w w' : World} {c B : Nat} {vT vS : Value} {U : Nat → Value} {D : Ds} (h : DeskM ty w c B vT vS U D) (hk : ∀ k, OwnD c vT vS U D.nt k → w'.heap[k]? = w.heap[k]?) : DeskM ty w' c B vT vS U D :=
  ⟨h.base, (hk c (.inl rfl)).trans h.blk, own_keep h.tb fun g e => hk g (.inr (.inl e)), fun i hi => own_keep (h.pr i hi) fun g e => hk g (.inr (.inr (.inr ⟨i, hi, e⟩))), own_keep h.st fun g e => hk g (.inr (.inr (.inl e))), h.tc, h.sc, h.uc, h.ts, h.tu, h.su, h.uu⟩
theorem DeskM.below {ty : TypeId} {w w' : World} {c B : Nat} {vT vS : Value} {U : Nat → Value} {D : Ds} (h : DeskM ty w c B vT vS U D) (hb : Below w.heap.size w w') : DeskM ty w' c B vT vS U D := h.keep fun k hk => hb.block k (h.rng hk).2

/-- One table is changed. -/
theorem DeskM.table {ty : TypeId} {w w' : World} {c B : Nat} {vT vS : Value} {U : Nat → Value} {D : Ds} (h : DeskM ty w c B vT vS U D) {i : Nat} (hi : i < D.nt) {u' : Value} {t' : Pl}
    (ho : w'.os = w.os ∧ w'.tape = w.tape ∧ w'.output = w.output ∧ w.heap.size ≤ w'.heap.size)
    (hk : ∀ k, k < w.heap.size → vT.ownBlock ≠ some k → (U i).ownBlock ≠ some k → w'.heap[k]? = w.heap[k]?)
    (hT : TOwn w' B vT D.nt (up1 U i u') (up1 D.T i t')) (hP : POwn w' B u' t'.n t'.P) (hu : ∀ g, u'.ownBlock = some g → (U i).ownBlock = some g ∨ w.heap.size ≤ g) :
    DeskM ty w' c B vT vS (up1 U i u') { D with T := up1 D.T i t' } ∧ Dst (OwnD c vT vS U D.nt) w (OwnD c vT vS (up1 U i u') D.nt) w' := by
  have new : ∀ g, u'.ownBlock = some g → g < w.heap.size → (U i).ownBlock = some g := fun g e hg => by
    rcases hu g e with e | e
    · exact e
    · omega
  refine ⟨⟨h.base, (hk c h.lt h.tc (h.uc i hi)).trans h.blk, hT, fun j hj => ?_, own_keep h.st fun g e => hk g (h.st.lt g e).2 (fun e2 => h.ts g e2 e) (h.su g i e hi), h.tc, h.sc, fun j hj => ?_, h.ts, fun g j e hj => ?_, fun g j e hj => ?_, fun g j q hj hq hne e => ?_⟩, ⟨ho.1, ho.2.1, ho.2.2.1, ho.2.2.2, fun k hk1 hn => hk k hk1 (fun e => hn (.inr (.inl e))) (fun e => hn (.inr (.inr (.inr ⟨i, hi, e⟩)))), fun k hO => ?_⟩⟩
  · show POwn w' B (up1 U i u' j) (up1 D.T i t' j).n (up1 D.T i t' j).P
    by_cases e : j = i
    · subst e; rw [up1_self, up1_self]; exact hP
    · rw [up1_other _ _ e, up1_other _ _ e]
      have hj : j < D.nt := hj
      exact own_keep (h.pr j hj) fun g e2 => hk g ((h.pr j hj).lt g e2).2 (fun e3 => h.tu g j e3 hj e2) (fun e3 => h.uu g j i hj hi e e2 e3)
  · have hj : j < D.nt := hj
    by_cases e : j = i
    · subst e; rw [up1_self]; exact fun e2 => h.uc j hj (new c e2 h.lt)
    · rw [up1_other _ _ e]; exact h.uc j hj
  · have hj : j < D.nt := hj
    by_cases e1 : j = i
    · subst e1; rw [up1_self]; exact fun e2 => h.tu g j e hj (new g e2 (h.tb.lt g e).2)
    · rw [up1_other _ _ e1]; exact h.tu g j e hj
  · have hj : j < D.nt := hj
    by_cases e1 : j = i
    · subst e1; rw [up1_self]; exact fun e2 => h.su g j e hj (new g e2 (h.st.lt g e).2)
    · rw [up1_other _ _ e1]; exact h.su g j e hj
  · have hj : j < D.nt := hj
    have hq : q < D.nt := hq
    by_cases e1 : j = i
    · subst e1
      rw [up1_self] at e
      rw [up1_other _ _ (fun e => hne e.symm)]
      exact fun e2 => h.uu g q j hq hj (fun e => hne e.symm) e2 (new g e ((h.pr q hq).lt g e2).2)
    · rw [up1_other _ _ e1] at e
      by_cases e2 : q = i
      · subst e2; rw [up1_self]; exact fun e3 => h.uu g j q hj hq e1 e (new g e3 ((h.pr j hj).lt g e).2)
      · rw [up1_other _ _ e2]; exact h.uu g j q hj hq hne e
  · rcases hO with e | e | e | ⟨j, hj, e⟩
    · exact .inl (.inl e)
    · exact .inl (.inr (.inl e))
    · exact .inl (.inr (.inr (.inl e)))
    · by_cases e1 : j = i
      · subst e1; rw [up1_self] at e
        rcases hu k e with e | e
        · exact .inl (.inr (.inr (.inr ⟨j, hj, e⟩)))
        · exact .inr e
      · rw [up1_other _ _ e1] at e
        exact .inl (.inr (.inr (.inr ⟨j, hj, e⟩)))
/-- One table more. -/
theorem DeskM.pushT {ty : TypeId} {w w' : World} {c B : Nat} {vT vS : Value} {U : Nat → Value} {D : Ds} (h : DeskM ty w c B vT vS U D) {v' : Value} {t' : Pl} (h0 : t'.n = 0)
    (ho : w'.os = w.os ∧ w'.tape = w.tape ∧ w'.output = w.output ∧ w.heap.size ≤ w'.heap.size)
    (hk : ∀ k, k < w.heap.size → k ≠ c → vT.ownBlock ≠ some k → w'.heap[k]? = w.heap[k]?) (hc : w'.heap[c]? = some (.cells #[v', vS] ty (0, 0)))
    (hT : TOwn w' B v' (D.nt + 1) (up1 U D.nt (.slice none 0 0)) (up1 D.T D.nt t')) (hu : ∀ g, v'.ownBlock = some g → vT.ownBlock = some g ∨ w.heap.size ≤ g) :
    DeskM ty w' c B v' vS (up1 U D.nt (.slice none 0 0)) { D with nt := D.nt + 1, T := up1 D.T D.nt t' } ∧ Dst (OwnD c vT vS U D.nt) w (OwnD c v' vS (up1 U D.nt (.slice none 0 0)) (D.nt + 1)) w' := by
  have new : ∀ g, v'.ownBlock = some g → g < w.heap.size → vT.ownBlock = some g := fun g e hg => by
    rcases hu g e with e | e
    · exact e
    · omega
  have hU : ∀ i g, i < D.nt + 1 → (up1 U D.nt (.slice none 0 0) i).ownBlock = some g → i < D.nt ∧ (U i).ownBlock = some g := fun i g hi e => by
    by_cases e1 : i = D.nt
    · subst e1; rw [up1_self] at e; cases e
    · rw [up1_other _ _ e1] at e; exact ⟨by omega, e⟩
  refine ⟨⟨h.base, hc, hT, fun j hj => ?_, own_keep h.st fun g e => hk g (h.st.lt g e).2 (fun e2 => h.sc (e2 ▸ e)) (fun e2 => h.ts g e2 e), fun e => h.tc (new c e h.lt), h.sc, fun j hj e => ?_, fun g e e2 => h.ts g (new g e (h.st.lt g e2).2) e2, fun g j e hj e2 => ?_, fun g j e hj e2 => ?_, fun g j q hj hq hne e e2 => ?_⟩, ⟨ho.1, ho.2.1, ho.2.2.1, ho.2.2.2, fun k hk1 hn => hk k hk1 (fun e => hn (.inl e)) (fun e => hn (.inr (.inl e))), fun k hO => ?_⟩⟩
  · have hj : j < D.nt + 1 := hj
    show POwn w' B (up1 U D.nt (.slice none 0 0) j) (up1 D.T D.nt t' j).n (up1 D.T D.nt t' j).P
    by_cases e : j = D.nt
    · subst e; rw [up1_self, up1_self, h0]; exact ⟨rfl, .inl ⟨rfl, rfl⟩⟩
    · rw [up1_other _ _ e, up1_other _ _ e]
      have hj' : j < D.nt := by omega
      exact own_keep (h.pr j hj') fun g e2 => hk g ((h.pr j hj').lt g e2).2 (fun e3 => h.uc j hj' (e3 ▸ e2)) (fun e3 => h.tu g j e3 hj' e2)
  · obtain ⟨a, b⟩ := hU j c hj e; exact h.uc j a b
  · obtain ⟨a, b⟩ := hU j g hj e2; exact h.tu g j (new g e ((h.pr j a).lt g b).2) a b
  · obtain ⟨a, b⟩ := hU j g hj e2; exact h.su g j e a b
  · obtain ⟨a, b⟩ := hU j g hj e; obtain ⟨a2, b2⟩ := hU q g hq e2; exact h.uu g j q a a2 hne b b2
  · rcases hO with e | e | e | ⟨j, hj, e⟩
    · exact .inl (.inl e)
    · rcases hu k e with e | e
      · exact .inl (.inr (.inl e))
      · exact .inr e
    · exact .inl (.inr (.inr (.inl e)))
    · obtain ⟨a, b⟩ := hU j k hj e; exact .inl (.inr (.inr (.inr ⟨j, a, b⟩)))
/-- One site more. -/
theorem DeskM.pushS {ty : TypeId} {w w' : World} {c B : Nat} {vT vS : Value} {U : Nat → Value} {D : Ds} (h : DeskM ty w c B vT vS U D) {v' : Value} {S' : Nat → ByteArray}
    (ho : w'.os = w.os ∧ w'.tape = w.tape ∧ w'.output = w.output ∧ w.heap.size ≤ w'.heap.size)
    (hk : ∀ k, k < w.heap.size → k ≠ c → vS.ownBlock ≠ some k → w'.heap[k]? = w.heap[k]?) (hc : w'.heap[c]? = some (.cells #[vT, v'] ty (0, 0)))
    (hS : KOwn w' B v' (D.ns + 1) S') (hu : ∀ g, v'.ownBlock = some g → vS.ownBlock = some g ∨ w.heap.size ≤ g) :
    DeskM ty w' c B vT v' U { D with ns := D.ns + 1, S := S' } ∧ Dst (OwnD c vT vS U D.nt) w (OwnD c vT v' U D.nt) w' := by
  have new : ∀ g, v'.ownBlock = some g → g < w.heap.size → vS.ownBlock = some g := fun g e hg => by
    rcases hu g e with e | e
    · exact e
    · omega
  refine ⟨⟨h.base, hc, own_keep h.tb fun g e => hk g (h.tb.lt g e).2 (fun e2 => h.tc (e2 ▸ e)) (h.ts g e), fun j hj => own_keep (h.pr j hj) fun g e => hk g ((h.pr j hj).lt g e).2 (fun e3 => h.uc j hj (e3 ▸ e)) (fun e3 => h.su g j e3 hj e), hS, h.tc, fun e => h.sc (new c e h.lt), h.uc, fun g e e2 => h.ts g e (new g e2 (h.tb.lt g e).2), h.tu, fun g j e hj e2 => h.su g j (new g e ((h.pr j hj).lt g e2).2) hj e2, h.uu⟩, ⟨ho.1, ho.2.1, ho.2.2.1, ho.2.2.2, fun k hk1 hn => hk k hk1 (fun e => hn (.inl e)) (fun e => hn (.inr (.inr (.inl e)))), fun k hO => ?_⟩⟩
  rcases hO with e | e | e | ⟨j, hj, e⟩
  · exact .inl (.inl e)
  · exact .inl (.inr (.inl e))
  · rcases hu k e with e | e
    · exact .inl (.inr (.inr (.inl e)))
    · exact .inr e
  · exact .inl (.inr (.inr (.inr ⟨j, hj, e⟩)))
/-- A table behind its pointer, read out of the desk. -/
theorem DeskM.look {ty : TypeId} {w : World} {c B : Nat} {vT vS : Value} {U : Nat → Value} {D : Ds} (h : DeskM ty w c B vT vS U D) {i : Nat} (hi : i < D.nt) :
    ∃ g cp a ac, vT = .slice (some ⟨g, 0, none⟩) D.nt cp ∧ g < w.heap.size ∧ U i = .slice a (D.T i).n ac ∧ w.cell? ⟨g, i * 2, none⟩ = some (.slice a (D.T i).n ac) ∧ w.cell? ⟨g, i * 2 + 1, none⟩ = some (.int .i64 (D.T i).turns) ∧ PAt w a (D.T i).n (D.T i).P := by
  obtain ⟨g, cp, hv, hb, hg⟩ := h.tb.form (by omega)
  obtain ⟨a, ac, hu, hP⟩ := (h.pr i hi).at
  refine ⟨g, cp, a, ac, hv, hg, hu, ?_, ?_, hP⟩
  · rw [World.ownsRow.cellAt (hv ▸ h.tb) (i * 2) (by omega)]
    have := tL_get (U := U) (T := D.T) hi (j := 0) (by omega)
    rw [Nat.add_zero] at this
    rw [this, hu]; rfl
  · rw [World.ownsRow.cellAt (hv ▸ h.tb) (i * 2 + 1) (by omega), tL_get hi (by omega)]; rfl
theorem DeskM.cells {ty : TypeId} {w : World} {c B : Nat} {vT vS : Value} {U : Nat → Value} {D : Ds} (h : DeskM ty w c B vT vS U D) : w.cell? ⟨c, 0, none⟩ = some vT ∧ w.cell? ⟨c, 1, none⟩ = some vS := by
  constructor
  · rw [cell_of_row w c 0 _ _ _ h.blk]; rfl
  · rw [cell_of_row w c 1 _ _ _ h.blk]; rfl
end Go.Proofs.YtnjgebncghdajaaGreatDoor
namespace Go.Proofs.YtnjgebncghdajaaGreatDoor
open Go.RowKit
set_option linter.unusedVariables false

theorem up1_up1 {α : Type} (f : Nat → α) (i : Nat) (a b : α) : up1 (up1 f i a) i b = up1 f i b := by
  funext j
  by_cases e : j = i
  · subst e; rw [up1_self, up1_self]
  · rw [up1_other _ _ e, up1_other _ _ e, up1_other _ _ e]
theorem up1_id {α : Type} (f : Nat → α) (i : Nat) : up1 f i (f i) = f := by
  funext j
  by_cases e : j = i
  · subst e; rw [up1_self]
  · rw [up1_other _ _ e]
theorem pL_set1 (f : Nat → Pr) (n i j : Nat) (u : Value) (p : Pr) (hi : i < n) (hj : j < 11) (hp : prL p = (prL (f i)).set j u) : (pL f n).set (i * 11 + j) u = pL (up1 f i p) n := by
  apply List.ext_getElem?
  intro q
  rw [List.getElem?_set]
  by_cases hq : q < n * 11
  · have e1 : q = q / 11 * 11 + q % 11 := by omega
    have h1 : q / 11 < n := by omega
    have h2 : q % 11 < 11 := Nat.mod_lt _ (by omega)
    have g1 : (pL f n)[q]? = (prL (f (q / 11)))[q % 11]? := by have := pL_get (f := f) h1 h2; rwa [← e1] at this
    have g2 : (pL (up1 f i p) n)[q]? = (prL (up1 f i p (q / 11)))[q % 11]? := by have := pL_get (f := up1 f i p) h1 h2; rwa [← e1] at this
    rw [g1, g2]
    by_cases e : q / 11 = i
    · rw [e, up1_self, hp, List.getElem?_set]
      by_cases e2 : i * 11 + j = q
      · rw [if_pos e2, if_pos (by rw [pL_length]; omega), if_pos (by omega), if_pos (by simp [prL]; omega)]
      · rw [if_neg e2, if_neg (by omega)]
    · rw [up1_other _ _ e, if_neg (by omega)]
  · rw [if_neg (by omega), List.getElem?_eq_none (by rw [pL_length]; omega), List.getElem?_eq_none (by rw [pL_length]; omega)]
theorem POwn.setF1 {w : World} {B g n cp : Nat} {f : Nat → Pr} (h : POwn w B (.slice (some ⟨g, 0, none⟩) n cp) n f) {i : Nat} (hi : i < n) (j : Nat) (hj : j < 11) (u : Value) (p : Pr) (hp : prL p = (prL (f i)).set j u) : POwn (w.setCell ⟨g, i * 11 + j, none⟩ u) B (.slice (some ⟨g, 0, none⟩) n cp) n (up1 f i p) := by
  have h1 := (World.ownsRow.stored h (i * 11 + j) u).1
  rw [pL_set1 f n i j u p hi hj hp] at h1
  exact h1
/-- Five cells of a value are written. -/
abbrev set5 (w : World) (g o : Nat) (v : Vl) : World := ((((w.setCell ⟨g, o, none⟩ (.int .i64 v.kind)).setCell ⟨g, o + 1, none⟩ (.int .i64 v.num)).setCell ⟨g, o + 2, none⟩ (.float .f64 v.flt)).setCell ⟨g, o + 3, none⟩ (.string v.str)).setCell ⟨g, o + 4, none⟩ (.int .i64 v.ref)
theorem POwn.setV {w : World} {B g n cp : Nat} {f : Nat → Pr} (h : POwn w B (.slice (some ⟨g, 0, none⟩) n cp) n f) {i : Nat} (hi : i < n) (v : Vl) : POwn (set5 w g (i * 11 + 5) v) B (.slice (some ⟨g, 0, none⟩) n cp) n (up1 f i ⟨(f i).key, v, (f i).turn⟩) := by
  have h1 := h.setF1 hi 5 (by omega) (.int .i64 v.kind) ⟨(f i).key, ⟨v.kind, (f i).val.num, (f i).val.flt, (f i).val.str, (f i).val.ref⟩, (f i).turn⟩ rfl
  have h2 := h1.setF1 hi 6 (by omega) (.int .i64 v.num) ⟨(f i).key, ⟨v.kind, v.num, (f i).val.flt, (f i).val.str, (f i).val.ref⟩, (f i).turn⟩ (by rw [up1_self]; rfl)
  have h3 := h2.setF1 hi 7 (by omega) (.float .f64 v.flt) ⟨(f i).key, ⟨v.kind, v.num, v.flt, (f i).val.str, (f i).val.ref⟩, (f i).turn⟩ (by rw [up1_self]; rfl)
  have h4 := h3.setF1 hi 8 (by omega) (.string v.str) ⟨(f i).key, ⟨v.kind, v.num, v.flt, v.str, (f i).val.ref⟩, (f i).turn⟩ (by rw [up1_self]; rfl)
  have h5 := h4.setF1 hi 9 (by omega) (.int .i64 v.ref) ⟨(f i).key, ⟨v.kind, v.num, v.flt, v.str, v.ref⟩, (f i).turn⟩ (by rw [up1_self]; rfl)
  rw [up1_up1, up1_up1, up1_up1, up1_up1] at h5
  exact h5
theorem set5_blk (w : World) (g o : Nat) (v : Vl) {k : Nat} (hk : k ≠ g) : (set5 w g o v).heap[k]? = w.heap[k]? := by
  unfold set5
  iterate 5 rw [Deep.blk_setCell_other _ _ _ _ (by exact hk)]
theorem set5_os (w : World) (g o : Nat) (v : Vl) : (set5 w g o v).os = w.os ∧ (set5 w g o v).tape = w.tape ∧ (set5 w g o v).output = w.output ∧ (set5 w g o v).heap.size = w.heap.size := by
  have hb : Below 0 w (set5 w g o v) := by
    unfold set5
    iterate 5 (refine Below.setCell ?_ (Nat.zero_le _) _)
    exact Below.refl _ _
  exact ⟨hb.os, hb.tape, hb.output, by simp [set5]⟩
/-- A value of the desk is written over. -/
theorem DeskM.setV {ty : TypeId} {w : World} {c B : Nat} {vT vS : Value} {U : Nat → Value} {D : Ds} (h : DeskM ty w c B vT vS U D) {i : Nat} (hi : i < D.nt) {g cp : Nat} (hu : U i = .slice (some ⟨g, 0, none⟩) (D.T i).n cp) {j : Nat} (hj : j < (D.T i).n) (v : Vl) :
    DeskM ty (set5 w g (j * 11 + 5) v) c B vT vS U { D with T := up1 D.T i ((D.T i).setV j v) } ∧ Dst (OwnD c vT vS U D.nt) w (OwnD c vT vS U D.nt) (set5 w g (j * 11 + 5) v) := by
  have hP := h.pr i hi
  rw [hu] at hP
  have ho := set5_os w g (j * 11 + 5) v
  have hg : (U i).ownBlock = some g := by rw [hu]; rfl
  have h1 := h.table (w' := set5 w g (j * 11 + 5) v) hi (u' := U i) (t' := (D.T i).setV j v) ⟨ho.1, ho.2.1, ho.2.2.1, Nat.le_of_eq ho.2.2.2.symm⟩ (fun k _ _ hk => set5_blk _ _ _ _ (fun e => hk (by rw [hg, e])))
    (by rw [up1_id]
        have e : tL U (up1 D.T i ((D.T i).setV j v)) D.nt = tL U D.T D.nt := tL_congr fun q hq => ⟨rfl, by
            by_cases e : q = i
            · subst e; rw [up1_self]; rfl
            · rw [up1_other _ _ e]⟩
        show World.ownsRow _ _ _ _ _ _ (tL U (up1 D.T i ((D.T i).setV j v)) D.nt)
        rw [e]
        exact own_keep h.tb fun q e2 => set5_blk _ _ _ _ (fun e3 => h.tu q i e2 hi (by rw [hg, e3])))
    (by rw [hu]; exact hP.setV hj v) (fun q e => .inl e)
  rw [up1_id] at h1
  exact h1
end Go.Proofs.YtnjgebncghdajaaGreatDoor
namespace Go.Proofs.YtnjgebncghdajaaGreatDoor
open Go.RowKit
set_option linter.unusedVariables false

theorem pL_add (f : Nat → Pr) (n : Nat) (p : Pr) : pL f n ++ prL p = pL (up1 f n p) (n + 1) := by
  have h : ∀ m, m ≤ n → pL (up1 f n p) m = pL f m := fun m => by
    induction m with
    | zero => intro _; rfl
    | succ m ih =>
      intro hm
      show pL (up1 f n p) m ++ prL (up1 f n p m) = pL f m ++ prL (f m)
      rw [ih (by omega), up1_other _ _ (by omega)]
  show _ = pL (up1 f n p) n ++ prL (up1 f n p n)
  rw [h n (Nat.le_refl _), up1_self]
theorem set_os (w : World) (a : Addr) (v : Value) : (w.setCell a v).os = w.os ∧ (w.setCell a v).tape = w.tape ∧ (w.setCell a v).output = w.output ∧ (w.setCell a v).heap.size = w.heap.size := by
  have hb : Below 0 w (w.setCell a v) := (Below.refl _ _).setCell (Nat.zero_le _) _
  exact ⟨hb.os, hb.tape, hb.output, by simp⟩

theorem DeskM.addP {ty : TypeId} {w X w3 : World} {c B g cp : Nat} {vS u' : Value} {U : Nat → Value} {D : Ds} (h : DeskM ty w c B (.slice (some ⟨g, 0, none⟩) D.nt cp) vS U D) {i : Nat} (hi : i < D.nt) {k v : Vl}
    (hX : Below w.heap.size (w.setCell ⟨g, i * 2 + 1, none⟩ (.int .i64 ((D.T i).turns + 1))) X) (hgr : X.grownBy w3 (U i).ownBlock)
    (hown : w3.ownsRow B 95 11 u' ((D.T i).n + 1) (pL (D.T i).P (D.T i).n ++ prL ⟨k, v, (D.T i).turns + 1⟩)) (hloc : ∀ q, u'.ownBlock = some q → (U i).ownBlock = some q ∨ w.heap.size ≤ q) :
    DeskM ty (w3.setCell ⟨g, i * 2, none⟩ u') c B (.slice (some ⟨g, 0, none⟩) D.nt cp) vS (up1 U i u') { D with T := up1 D.T i ((D.T i).add k v) } ∧ Dst (OwnD c (.slice (some ⟨g, 0, none⟩) D.nt cp) vS U D.nt) w (OwnD c (.slice (some ⟨g, 0, none⟩) D.nt cp) vS (up1 U i u') D.nt) (w3.setCell ⟨g, i * 2, none⟩ u') := by
  have hgl : g < w.heap.size := (h.tb.lt g rfl).2
  have hgu : (U i).ownBlock ≠ some g := h.tu g i rfl hi
  have s1 := set_os w ⟨g, i * 2 + 1, none⟩ (.int .i64 ((D.T i).turns + 1))
  have s2 := set_os w3 ⟨g, i * 2, none⟩ u'
  have hXs : w.heap.size ≤ X.heap.size := by have := hX.size; omega
  have t1 : (w.setCell ⟨g, i * 2 + 1, none⟩ (.int .i64 ((D.T i).turns + 1))).ownsRow B 72 2 (.slice (some ⟨g, 0, none⟩) D.nt cp) D.nt (tL U (up1 D.T i ((D.T i).add k v)) D.nt) := by
    have := (World.ownsRow.stored h.tb (i * 2 + 1) (.int .i64 ((D.T i).add k v).turns)).1
    rw [tL_set1 hi] at this
    exact this
  have t2 : X.ownsRow B 72 2 (.slice (some ⟨g, 0, none⟩) D.nt cp) D.nt (tL U (up1 D.T i ((D.T i).add k v)) D.nt) := own_keep t1 fun q e => by cases e; exact hX.block g hgl
  have t3 := t2.kept hgr (.inr (fun e => hgu e.symm))
  have t4 := (World.ownsRow.stored t3 (i * 2) u').1
  rw [tL_set0 hi] at t4
  have hug : ∀ q, u'.ownBlock = some q → q ≠ g := fun q e e2 => by
    rcases hloc q e with e3 | e3
    · exact hgu (e2 ▸ e3)
    · omega
  rw [pL_add] at hown
  have hk3 : ∀ q, q < w.heap.size → (U i).ownBlock ≠ some q → q ≠ g → w3.heap[q]? = w.heap[q]? := fun q hq h1 h2 => ((hgr.block q (by omega) (fun e => h1 e.symm)).trans (hX.block q hq)).trans (Deep.blk_setCell_other _ _ _ _ (by exact h2))
  refine h.table (w' := w3.setCell ⟨g, i * 2, none⟩ u') hi (u' := u') (t' := (D.T i).add k v) ⟨?_, ?_, ?_, ?_⟩ (fun q hq h1 h2 => ?_) t4 (own_keep hown fun q e => Deep.blk_setCell_other _ _ _ _ (by exact hug q e)) hloc
  · exact s2.1.trans (hgr.os.trans (hX.os.trans s1.1))
  · exact s2.2.1.trans (hgr.tape.trans (hX.tape.trans s1.2.1))
  · exact s2.2.2.1.trans (hgr.output.trans (hX.output.trans s1.2.2.1))
  · rw [s2.2.2.2]; have := hgr.size; omega
  · have hne : q ≠ g := fun e => h1 (by rw [e]; rfl)
    exact (Deep.blk_setCell_other _ _ _ _ (by exact hne)).trans (hk3 q hq h2 hne)

/-- A table's pairs are set anew. -/
theorem DeskM.swap {ty : TypeId} {w X : World} {c B g cp : Nat} {vS u' : Value} {U : Nat → Value} {D : Ds} (h : DeskM ty w c B (.slice (some ⟨g, 0, none⟩) D.nt cp) vS U D) {i : Nat} (hi : i < D.nt) {t' : Pl} (ht : t'.turns = (D.T i).turns)
    (ho : X.os = w.os ∧ X.tape = w.tape ∧ X.output = w.output ∧ w.heap.size ≤ X.heap.size) (hk : ∀ q, q < w.heap.size → (U i).ownBlock ≠ some q → X.heap[q]? = w.heap[q]?)
    (hown : POwn X B u' t'.n t'.P) (hloc : ∀ q, u'.ownBlock = some q → (U i).ownBlock = some q ∨ w.heap.size ≤ q) :
    DeskM ty (X.setCell ⟨g, i * 2, none⟩ u') c B (.slice (some ⟨g, 0, none⟩) D.nt cp) vS (up1 U i u') { D with T := up1 D.T i t' } ∧ Dst (OwnD c (.slice (some ⟨g, 0, none⟩) D.nt cp) vS U D.nt) w (OwnD c (.slice (some ⟨g, 0, none⟩) D.nt cp) vS (up1 U i u') D.nt) (X.setCell ⟨g, i * 2, none⟩ u') := by
  have hgl : g < w.heap.size := (h.tb.lt g rfl).2
  have hgu : (U i).ownBlock ≠ some g := h.tu g i rfl hi
  have s2 := set_os X ⟨g, i * 2, none⟩ u'
  have t1 : tL U D.T D.nt = tL U (up1 D.T i t') D.nt := tL_congr fun q hq => ⟨rfl, by
    by_cases e : q = i
    · subst e; rw [up1_self, ht]
    · rw [up1_other _ _ e]⟩
  have t2 : X.ownsRow B 72 2 (.slice (some ⟨g, 0, none⟩) D.nt cp) D.nt (tL U D.T D.nt) := own_keep h.tb fun q e => by cases e; exact hk g hgl hgu
  have t4 := (World.ownsRow.stored t2 (i * 2) u').1
  rw [t1, tL_set0 hi] at t4
  have hug : ∀ q, u'.ownBlock = some q → q ≠ g := fun q e e2 => by
    rcases hloc q e with e3 | e3
    · exact hgu (e2 ▸ e3)
    · omega
  refine h.table (w' := X.setCell ⟨g, i * 2, none⟩ u') hi (u' := u') (t' := t') ⟨s2.1.trans ho.1, s2.2.1.trans ho.2.1, s2.2.2.1.trans ho.2.2.1, by rw [s2.2.2.2]; exact ho.2.2.2⟩ (fun q hq h1 h2 => ?_) t4 (own_keep hown fun q e => Deep.blk_setCell_other _ _ _ _ (by exact hug q e)) hloc
  have hne : q ≠ g := fun e => h1 (by rw [e]; rfl)
  exact (Deep.blk_setCell_other _ _ _ _ (by exact hne)).trans (hk q hq h2)
theorem own_mono1 {w : World} {B B' : Nat} {e : TypeId} {size : Nat} {v : Value} {n : Nat} {xs : List Value} (h : w.ownsRow B e size v n xs) (hb : B' ≤ B) : w.ownsRow B' e size v n xs := by
  refine ⟨h.1, ?_⟩
  rcases h.2 with hn | ⟨g, cap, cur, hv, hb', rest⟩
  · exact .inl hn
  · exact .inr ⟨g, cap, cur, hv, Nat.le_trans hb hb', rest⟩
/-- How many of the first q pairs are left where pair j goes. -/
def dcnt (j q : Nat) : Nat := if q ≤ j then q else q - 1
theorem del_at (t : Pl) {j q : Nat} (h : q ≠ j) : (t.del j).P (dcnt j q) = t.P q := by
  show (if dcnt j q < j then t.P (dcnt j q) else t.P (dcnt j q + 1)) = t.P q
  unfold dcnt
  by_cases h1 : q ≤ j
  · rw [if_pos h1, if_pos (by omega)]
  · rw [if_neg h1, if_neg (by omega), show q - 1 + 1 = q by omega]
theorem dcnt_step {j q : Nat} (h : q ≠ j) : dcnt j (q + 1) = dcnt j q + 1 := by
  unfold dcnt
  by_cases h1 : q + 1 ≤ j
  · rw [if_pos h1, if_pos (by omega)]
  · rw [if_neg h1, if_neg (by omega)]; omega
theorem dcnt_same (j : Nat) : dcnt j (j + 1) = dcnt j j := by
  unfold dcnt
  rw [if_neg (by omega), if_pos (Nat.le_refl _)]; omega
theorem dcnt_le (j q : Nat) : dcnt j q ≤ q := by
  unfold dcnt; split <;> omega
theorem grown_below1 {B : Nat} {w w' : World} {row : Option Nat} (h : w.grownBy w' row) (hr : ∀ q, row = some q → B ≤ q) (hB : B ≤ w.heap.size) : Below B w w' :=
  ⟨h.os, h.tape, h.output, h.size, fun k hk => h.block k (by omega) (fun e => by have := hr k e.symm; omega)⟩
theorem news_after1 (wr : World) (o1 : Obj) (cs : List Value) (t : TypeId) : ∀ j u, cs[j]? = some u → ((wr.alloc o1).alloc (.cells cs.toArray t)).cell? ((⟨wr.heap.size + 1, 0, none⟩ : Addr).add j) = some u := by
  have hb := Deep.blk_alloc_new (wr.alloc o1) (.cells cs.toArray t)
  have hz : (wr.alloc o1).heap.size = wr.heap.size + 1 := by simp
  rw [hz] at hb
  exact World.news_of_block hb
end Go.Proofs.YtnjgebncghdajaaGreatDoor
