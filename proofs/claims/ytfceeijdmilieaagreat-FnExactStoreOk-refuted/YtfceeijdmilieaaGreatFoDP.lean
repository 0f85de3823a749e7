/-
  FoD.
-/
import Derived.Test.YtfceeijdmilieaaGreatFoCP
namespace Go.Proofs.YtfceeijdmilieaaGreat
open Go.RowKit
set_option linter.unusedVariables false

/-- The shapes on the way up from i, i itself the first. -/
def anc (f : Nat → Shp) (i : Nat) : Nat → Nat
  | 0 => i
  | t + 1 => (f (anc f i t)).parent.toNat
/-- How many fields shape i has, and field j of them. -/
def nf (f : Nat → Shp) (i : Nat) : Nat := (f i).count.toNat
def fld (f : Nat → Shp) (i j : Nat) : ByteArray := (f (anc f i (nf f i - 1 - j))).key

theorem count_pos {n : Nat} {f : Nat → Shp} (h2 : Rule2 f) (h3 : Rule3 n f) {i : Nat} (hi : i < n) (h0 : 0 < i) : 1 ≤ (f i).count ∧ (f i).count ≤ 12 := by
  obtain ⟨a, b, c, d, _⟩ := h3 i h0 hi
  have := (count_bound (k := n) h2 (fun j h1 h2 => h3 j h1 h2) (f i).parent.toNat (by omega)).1
  omega

theorem anc_bound {n : Nat} {f : Nat → Shp} (h2 : Rule2 f) (h3 : Rule3 n f) {i : Nat} (hi : i < n) : ∀ t, t ≤ nf f i → anc f i t < n ∧ (f (anc f i t)).count = nf f i - t := by
  intro t
  induction t with
  | zero =>
    intro _
    have := (count_bound (k := n) h2 (fun j h1 h2 => h3 j h1 h2) i hi).1
    exact ⟨hi, by show (f i).count = _; unfold nf; omega⟩
  | succ t ih =>
    intro ht
    obtain ⟨ha, hc⟩ := ih (by omega)
    have h0 : 0 < anc f i t := by
      rcases Nat.eq_zero_or_pos (anc f i t) with e | e
      · rw [e, h2.2.2] at hc; omega
      · exact e
    obtain ⟨a, b, c, _⟩ := h3 _ h0 ha
    exact ⟨by show (f (anc f i t)).parent.toNat < n; omega, by show (f (f (anc f i t)).parent.toNat).count = _; omega⟩

theorem infoStr : (Tryz.prog.info? 9).map (fun i => (i.zero, i.size, i.bytes)) = some (some (.string ⟨#[]⟩), 1, 16) := by kernel_rfl

/-- A row of n strings that fills block b. -/
def StRow (w : World) (b n : Nat) (g : Nat → ByteArray) : Prop := w.rowIs b 9 n (fun j => .string (g j))

set_option maxRecDepth 100000 in
set_option maxHeartbeats 2000000 in
theorem l2fields_any (b n cap i : Nat) (f : Nat → Shp) (w : World) (hA : ShRow w b n f) (h1 : Rule1 n) (h2 : Rule2 f) (h3 : Rule3 n f) (hi : i < n) :
    Calls Tryz.prog 49 #[.agg #[.slice (some ⟨b, 0, none⟩) n cap], .int .i64 i] w fun e w' => (∃ m, e = .returned (.slice (some ⟨m, 0, none⟩) (nf f i) (nf f i)) ∧ w.heap.size ≤ m ∧ StRow w' m (nf f i) (fld f i)) ∧ Below w.heap.size w w' := by
  have hl := hA.lt
  have hn2 : n ≤ 200 := h1.2
  obtain ⟨hc0, hc1⟩ := count_bound (k := n) h2 (fun j h1 h2 => h3 j h1 h2) i hi
  obtain ⟨c, hc⟩ : ∃ c : Nat, (f i).count = c := ⟨(f i).count.toNat, by omega⟩
  have hnf : nf f i = c := by unfold nf; omega
  have hc12 : c ≤ 12 := by omega
  have hmk := run_make_row' (P := Tryz.prog) 109 9 (.string ⟨#[]⟩) 16 Tryz.underlying109 infoStr rfl .i64 .i64 c (by omega) (by omega)
  obtain ⟨a0, a1, a2⟩ := hA.cells hi
  rw [hc] at a2
  have HA := hide hA
  have H2 := hide h2
  have H3 := hide h3
  have HN := hide hnf
  clear hA h1 h2 h3 hc hnf
  go_enter Tryz.func49, Tryz.ntmps49
  go_wp2
  clear a0 a1 a2 hmk
  go_loopw [5, 7] (fun q s wr => ∃ (t : Nat) (g : Nat → Value), t ≤ c ∧ q = .int .i64 ((c : Int) - t) ∧ s = .int .i64 (anc f i t) ∧ Below w.heap.size w wr ∧ wr.cell? ⟨w.heap.size, 0, none⟩ = some (.slice (some ⟨b, 0, none⟩) n cap) ∧ wr.rowIs (w.heap.size + 1) 9 c g ∧ ∀ j, c - t ≤ j → j < c → g j = .string (fld f i j)) (fun q s _ => (intOf s).toNat)
  case atStart => exact ⟨0, fun _ => .string ⟨#[]⟩, by omega, by simp, rfl, ((Below.refl _ _).alloc (Nat.le_refl _) _).alloc (by simp) _, by simp [go_sem], by simpa using World.rowIs_made (w.alloc (.cells #[.slice (some ⟨b, 0, none⟩) n cap] 33)) (.string ⟨#[]⟩) c 9, fun j h1 h2 => by omega⟩
  case round =>
    obtain ⟨t, g, ht, rfl, rfl, hb, hbox, hrow, hall⟩ := hrel
    obtain ⟨han, hac⟩ := anc_bound (unhide H2) (unhide H3) hi t (by rw [unhide HN]; exact ht)
    rw [unhide HN] at hac
    obtain ⟨p, hp⟩ : ∃ p, anc f i t = p := ⟨_, rfl⟩
    rw [hp] at han hac ⊢
    have HP := hide hp
    clear hp
    obtain ⟨a0, a1, a2⟩ := ((unhide HA).below hb hl).cells han
    have hlr := World.rowIs.lt hrow
    by_cases hp0 : p = 0
    · subst hp0
      have hct : c = t := by have := (unhide H2).2.2; omega
      subst hct
      have HB := hide hb
      have HR := hide hrow
      have HALL := hide hall
      clear hb hrow hall
      go_wp2
      go_ret
      refine ⟨⟨w.heap.size + 1, by rw [unhide HN]; rfl, by omega, ?_⟩, unhide HB⟩
      rw [unhide HN]
      exact (unhide HR).congr fun j hj => unhide HALL j (by omega) hj
    · have hpp : 0 < p := by omega
      obtain ⟨hq1, hq2, _⟩ := unhide H3 p hpp han
      have hct : t < c := by have := (count_pos (unhide H2) (unhide H3) han hpp).1; omega
      obtain ⟨r, hr⟩ : ∃ r : Nat, r + 1 = c - t := ⟨c - t - 1, by omega⟩
      have er : (c : Int) - t = (r : Int) + 1 := by omega
      rw [er]
      have hrc : r < c := by omega
      have d0 := hrow.cell hrc
      have d1 := hrow.frozen r
      have HF : Hid (fld f i r = (f p).key) := hide (by unfold fld; rw [unhide HN, show c - 1 - r = t by omega, unhide HP])
      have HB := hide hb
      have HR := hide hrow
      have HALL := hide hall
      have HE := hide er
      clear hb hrow hall er hac
      go_wp2
      go_roundw
      case rel =>
        refine ⟨t + 1, _, by omega, by congr 1; omega, ?_, (unhide HB).setCell (by show _ ≤ w.heap.size + 1; omega) _, by simpa [go_sem] using hbox, (unhide HR).set r _, fun j h1 h2 => ?_⟩
        · show Value.int .i64 (f p).parent = .int .i64 ((f (anc f i t)).parent.toNat : Int)
          rw [unhide HP, Int.toNat_of_nonneg hq1]
        · by_cases e : j = r
          · subst e; simp [unhide HF]
          · simp only [e, if_false]; exact unhide HALL j (by omega) h2
      case measure => simp [intOf]; omega

set_option maxHeartbeats 1000000 in
theorem l2shape_any (b n cap : Nat) (i : Int) (w : World) :
    Calls Tryz.prog 26 #[.agg #[.slice (some ⟨b, 0, none⟩) n cap], .int .i64 i] w fun e w' => e = .returned (.bool (decide (0 ≤ i) && decide (i < n))) ∧ Below w.heap.size w w' := by
  go_enter Tryz.func26, Tryz.ntmps26
  go_wp2
  all_goals (go_ret; refine ⟨?_, (Below.refl _ _).alloc (Nat.le_refl _) _⟩; first | (simp_all; done) | (simp_all; omega))

theorem forestOk_zero {n : Nat} {f : Nat → Shp} (h : forestOk n f = 0) : Rule1 n ∧ Rule2 f ∧ Rule3 n f ∧ Rule4 n f ∧ Rule5 n f := by
  unfold forestOk at h
  split at h
  · split at h
    · split at h
      · split at h
        · split at h
          · rename_i h1 h2 h3 h4 h5; exact ⟨h1, h2, h3, h4, h5⟩
          · omega
        · omega
      · omega
    · omega
  · omega

/-- A shape of a sound forest. -/
def Good (n : Nat) (f : Nat → Shp) (i : Int) : Prop := forestOk n f = 0 ∧ 0 ≤ i ∧ i < n

end Go.Proofs.YtfceeijdmilieaaGreat
