/-
  Shapes: the model's Grow, whole.
-/
import Derived.Test.YtgiegkigfokdmabFoL
import Derived.Test.YtgiegkigfokdmabFoK
namespace Go.Proofs.Ytgiegkigfokdmab
open Go.RowKit
set_option linter.unusedVariables false

/-- A question that is wrong in itself. -/
def BadG (n : Nat) (f : Nat → Shp) (i : Int) (key : ByteArray) : Prop := ¬ Good n f i ∨ 4000 < key.size ∨ 0 ≤ plcI f i.toNat key

/-- What Grow answers. -/
def Grw (n : Nat) (f : Nat → Shp) (i : Int) (key : ByteArray) (n' : Nat) (f' : Nat → Shp) (r : Int) : Prop :=
  (BadG n f i key ∧ n' = 0 ∧ f' = f ∧ r = -1) ∨ (¬ BadG n f i key ∧ GRes n f i.toNat key n' f' r)

theorem Grw.unique {n : Nat} {f : Nat → Shp} {i : Int} {key : ByteArray} {n1 n2 : Nat} {f1 f2 : Nat → Shp} {r1 r2 : Int} (h : Grw n f i key n1 f1 r1) (h' : Grw n f i key n2 f2 r2) : n1 = n2 ∧ f1 = f2 ∧ r1 = r2 := by
  rcases h with ⟨a, b, c, d⟩ | ⟨a, b⟩
  · rcases h' with ⟨a', b', c', d'⟩ | ⟨a', _⟩
    · exact ⟨b.trans b'.symm, c.trans c'.symm, d.trans d'.symm⟩
    · exact absurd a a'
  · rcases h' with ⟨a', _⟩ | ⟨_, b'⟩
    · exact absurd a' a
    · have hg : Good n f i := Classical.byContradiction fun h => a (.inl h)
      exact b.unique (forestOk_zero hg.1).2.2.2.1 b'

theorem GRes.bound {n : Nat} {f : Nat → Shp} {i : Nat} {key : ByteArray} {n' : Nat} {f' : Nat → Shp} {r : Int} (h : GRes n f i key n' f' r) (h1 : Rule1 n) : 0 < n' ∧ n' ≤ 200 := by
  obtain ⟨a, b⟩ := h1
  rcases h with ⟨j, _, _, rfl, _⟩ | ⟨_, _, _, rfl, _⟩ | ⟨_, _, c, _, rfl, _⟩ <;> omega

theorem Grw.bound {n : Nat} {f : Nat → Shp} {i : Int} {key : ByteArray} {n' : Nat} {f' : Nat → Shp} {r : Int} (h : Grw n f i key n' f' r) : n' ≤ 200 := by
  rcases h with ⟨_, rfl, _⟩ | ⟨a, b⟩
  · omega
  · have hg : Good n f i := Classical.byContradiction fun h => a (.inl h)
    exact (b.bound (forestOk_zero hg.1).1).2

set_option maxRecDepth 100000 in
set_option maxHeartbeats 2000000 in
theorem specGrow_any (b n cap : Nat) (i : Int) (key : ByteArray) (f : Nat → Shp) (w : World) (hA : ShRow w b n f) (hn : n ≤ 1048576) (hks : key.size ≤ 1048576) :
    Calls Try.prog 21 #[.agg #[.slice (some ⟨b, 0, none⟩) n cap], .int .i64 i, .string key] w fun e w' => (∃ v r n' f', e = .returned (GrV v r) ∧ Grw n f i key n' f' r ∧ GV f' n' w' v w.heap.size w'.heap.size) ∧ Below w.heap.size w w' := by
  have hl := hA.lt
  have HA := hide hA
  clear hA
  have hb0 : Below w.heap.size w ((w.alloc (.cells #[.slice (some ⟨b, 0, none⟩) n cap] 29)).alloc (.cells #[.slice none 0 0, .int .i64 0] 42)) := ((Below.refl _ _).alloc (Nat.le_refl _) _).alloc (by simp) _
  have HB0 := hide hb0
  clear hb0
  go_enter Try.func21, Try.ntmps21
  go_wp2_with fail
  refine (specForestOk b n cap f _ ((unhide HA).below (unhide HB0) hl) hn).mono ?_
  rintro e w1 ⟨rfl, hb1⟩
  obtain ⟨r, hr⟩ : ∃ r, forestOk n f = r := ⟨_, rfl⟩
  rw [hr]
  have HR := hide hr
  clear hr
  obtain ⟨hc1, hf1⟩ := bcell hb1
  have hz1 := hb1.size
  simp at hz1
  have HB1 := hide ((unhide HB0).trans (hb1.mono (unhide HB0).size))
  have y1 : w.heap.size + 1 < w1.heap.size := by omega
  have a1 : w1.cell? ⟨w.heap.size, 0, none⟩ = some (.slice (some ⟨b, 0, none⟩) n cap) := by rw [hc1 _ _ (by simp; omega)]; simp [go_sem]
  have g1 : w1.cell? ⟨w.heap.size + 1, 0, none⟩ = some (.slice none 0 0) := by rw [hc1 _ _ (by simp)]; simp [go_sem]
  have k1 : w1.cell? ⟨w.heap.size + 1, 1, none⟩ = some (.int .i64 0) := by rw [hc1 _ _ (by simp)]; simp [go_sem]
  have p1 : w1.frozen? ⟨w.heap.size + 1, 0, none⟩ = false := by rw [hf1 _ _ (by simp)]; simp [go_sem]
  have q1 : w1.frozen? ⟨w.heap.size + 1, 1, none⟩ = false := by rw [hf1 _ _ (by simp)]; simp [go_sem]
  clear hb1 hc1 hf1 hz1
  by_cases h0 : r = 0
  case neg =>
    have hd : (r != 0) = true := by simp [h0]
    have HG : Hid (BadG n f i key) := hide (.inl (fun h => h0 (by rw [← unhide HR]; exact h.1)))
    go_wp2
    refine bodyPost_ret (v := GrV (.slice none 0 0) (-1)) (by simp [results, Try.results21, go_sem, g1, k1]) rfl ⟨⟨_, _, 0, f, rfl, .inl ⟨unhide HG, rfl, rfl, rfl⟩, .inl ⟨rfl, rfl⟩⟩, ?_⟩
    exact ((unhide HB1).setCell (by show _ ≤ w.heap.size + 1; omega) _).setCell (by show _ ≤ w.heap.size + 1; omega) _
  subst h0
  go_wp2_with fail
  refine (l2shape_any b n cap i _).mono ?_
  rintro e w2 ⟨rfl, hb2⟩
  have z12 : w1.heap.size ≤ w2.heap.size := hb2.size
  have a2 := (hb2.cell (p := ⟨w.heap.size, 0, none⟩) (by show w.heap.size < w1.heap.size; omega)).trans a1
  have g2 := (hb2.cell (p := ⟨w.heap.size + 1, 0, none⟩) (by exact y1)).trans g1
  have k2 := (hb2.cell (p := ⟨w.heap.size + 1, 1, none⟩) (by exact y1)).trans k1
  have p2 := (hb2.frozen (p := ⟨w.heap.size + 1, 0, none⟩) (by exact y1)).trans p1
  have q2 := (hb2.frozen (p := ⟨w.heap.size + 1, 1, none⟩) (by exact y1)).trans q1
  have HB2 := hide ((unhide HB1).trans (hb2.mono (unhide HB1).size))
  clear hb2 a1 g1 k1 p1 q1 HB1
  by_cases hg : 0 ≤ i ∧ i < n
  case neg =>
    have hd : (decide ((0 : Int) ≤ i) && decide ((i : Int) < n)) = false := by simp; omega
    have HG : Hid (BadG n f i key) := hide (.inl (fun h => hg ⟨h.2.1, h.2.2⟩))
    rw [hd]
    go_wp2
    refine bodyPost_ret (v := GrV (.slice none 0 0) (-1)) (by simp [results, Try.results21, go_sem, g2, k2]) rfl ⟨⟨_, _, 0, f, rfl, .inl ⟨unhide HG, rfl, rfl, rfl⟩, .inl ⟨rfl, rfl⟩⟩, ?_⟩
    exact ((unhide HB2).setCell (by show _ ≤ w.heap.size + 1; omega) _).setCell (by show _ ≤ w.heap.size + 1; omega) _
  obtain ⟨k, hk⟩ : ∃ k : Nat, i = k := ⟨i.toNat, by omega⟩
  subst hk
  have hd : (decide ((0 : Int) ≤ k) && decide ((k : Int) < n)) = true := by simp; omega
  rw [hd]
  obtain ⟨h1, h2, h3, h4, h5⟩ := forestOk_zero (unhide HR)
  have hkn : k < n := by omega
  have hgood : Good n f k := ⟨unhide HR, by omega, by omega⟩
  have HX := hide (And.intro h1 (And.intro h2 (And.intro h3 h5)))
  have HGd := hide hgood
  have hn200 : n ≤ 200 := h1.2
  have hn0 : 0 < n := by have := h1.1; omega
  clear h1 h2 h3 h4 h5 hg hd hgood
  by_cases h4000 : (4000 : Int) < key.size
  · have hd4 : decide ((4000 : Int) < key.size) = true := by simp [h4000]
    have HG : Hid (BadG n f k key) := hide (.inr (.inl (by omega)))
    go_wp2
    refine bodyPost_ret (v := GrV (.slice none 0 0) (-1)) (by simp [results, Try.results21, go_sem, g2, k2]) rfl ⟨⟨_, _, 0, f, rfl, .inl ⟨unhide HG, rfl, rfl, rfl⟩, .inl ⟨rfl, rfl⟩⟩, ?_⟩
    exact ((unhide HB2).setCell (by show _ ≤ w.heap.size + 1; omega) _).setCell (by show _ ≤ w.heap.size + 1; omega) _
  have hd4 : decide ((4000 : Int) < key.size) = false := by simp; omega
  go_wp2_with fail
  refine (l2at_any b n cap k key f _ ((unhide HA).below (unhide HB2) hl) (unhide HX).1 (unhide HX).2.1 (unhide HX).2.2.1 (unhide HX).2.2.2 hkn).mono ?_
  rintro e w3 ⟨rfl, hb3⟩
  obtain ⟨r, hr⟩ : ∃ r, plcI f k key = r := ⟨_, rfl⟩
  rw [hr]
  have HP := hide hr
  clear hr
  have y2 : w.heap.size + 1 < w2.heap.size := by omega
  have z23 : w2.heap.size ≤ w3.heap.size := hb3.size
  have a3 := (hb3.cell (p := ⟨w.heap.size, 0, none⟩) (by show w.heap.size < w2.heap.size; omega)).trans a2
  have g3 := (hb3.cell (p := ⟨w.heap.size + 1, 0, none⟩) (by exact y2)).trans g2
  have k3 := (hb3.cell (p := ⟨w.heap.size + 1, 1, none⟩) (by exact y2)).trans k2
  have p3 := (hb3.frozen (p := ⟨w.heap.size + 1, 0, none⟩) (by exact y2)).trans p2
  have q3 := (hb3.frozen (p := ⟨w.heap.size + 1, 1, none⟩) (by exact y2)).trans q2
  have HB3 := hide ((unhide HB2).trans (hb3.mono (unhide HB2).size))
  clear hb3 a2 g2 k2 p2 q2 HB2
  by_cases hr0 : 0 ≤ r
  · have hdr : decide (0 ≤ r) = true := by simp [hr0]
    have HG : Hid (BadG n f k key) := hide (.inr (.inr (by show 0 ≤ plcI f k key; rw [unhide HP]; exact hr0)))
    go_wp2
    refine bodyPost_ret (v := GrV (.slice none 0 0) (-1)) (by simp [results, Try.results21, go_sem, g3, k3]) rfl ⟨⟨_, _, 0, f, rfl, .inl ⟨unhide HG, rfl, rfl, rfl⟩, .inl ⟨rfl, rfl⟩⟩, ?_⟩
    exact ((unhide HB3).setCell (by show _ ≤ w.heap.size + 1; omega) _).setCell (by show _ ≤ w.heap.size + 1; omega) _
  have hdr : decide (0 ≤ r) = false := by simp; omega
  have HNB : Hid (¬ BadG n f k key) := hide (by
    rintro (h | h | h)
    · exact h (unhide HGd)
    · omega
    · have h : 0 ≤ plcI f k key := h
      rw [unhide HP] at h; exact hr0 h)
  go_wp2_with fail
  refine (l2copy_any b n cap f _ ((unhide HA).below (unhide HB3) hl) hn200).mono ?_
  rintro e w4 ⟨⟨v, rfl, hown⟩, hb4⟩
  obtain ⟨g, cp, rfl, hgb, hgl⟩ := World.ownsRow.form hown hn0
  have y3 : w.heap.size + 1 < w3.heap.size := by omega
  have z34 : w3.heap.size ≤ w4.heap.size := hb4.size
  have g4 := (hb4.cell (p := ⟨w.heap.size + 1, 0, none⟩) (by exact y3)).trans g3
  have k4 := (hb4.cell (p := ⟨w.heap.size + 1, 1, none⟩) (by exact y3)).trans k3
  have p4 := (hb4.frozen (p := ⟨w.heap.size + 1, 0, none⟩) (by exact y3)).trans p3
  have q4 := (hb4.frozen (p := ⟨w.heap.size + 1, 1, none⟩) (by exact y3)).trans q3
  have HB4 := hide ((unhide HB3).trans (hb4.mono (unhide HB3).size))
  have HOW := hide (World.ownsRow.alloc hown (.cells #[.slice (some ⟨g, 0, none⟩) n cp] 29))
  clear hb4 a3 g3 k3 p3 q3 HB3 hown
  go_wp2_with fail
  refine (l2grow_any w4.heap.size g n cp k w3.heap.size key f _ (by simp [go_sem]) (by simp [go_sem]) (unhide HOW) (by omega) (by simp) (by simp; omega) (unhide HX).1 (unhide HX).2.1 (unhide HX).2.2.1 hkn).mono ?_
  rintro e w5 ⟨⟨r5, n', f', rfl, hres, b5, cp5, _, _, hx5, hown5⟩, hb5⟩
  have e5 : w5.heap[w.heap.size + 1]? = w4.heap[w.heap.size + 1]? := (hb5.block _ (by omega) (by omega)).trans (Deep.blk_alloc_lt _ _ _ (by omega))
  have g5 : w5.cell? ⟨w.heap.size + 1, 0, none⟩ = some (.slice none 0 0) := (World.cell?_of_block e5).trans g4
  have k5 : w5.cell? ⟨w.heap.size + 1, 1, none⟩ = some (.int .i64 0) := (World.cell?_of_block e5).trans k4
  have p5 : w5.frozen? ⟨w.heap.size + 1, 0, none⟩ = false := (World.frozen?_of_block e5).trans p4
  have q5 : w5.frozen? ⟨w.heap.size + 1, 1, none⟩ = false := (World.frozen?_of_block e5).trans q4
  have hb5' : Below w.heap.size w w5 := (unhide HB4).trans ⟨hb5.os, hb5.tape, hb5.output, Nat.le_trans (by simp) hb5.size, fun q hq => (hb5.block q (by omega) (by omega)).trans (Deep.blk_alloc_lt _ _ _ (by omega))⟩
  obtain ⟨hlo, hin⟩ := ShOwn.in hown5
  have hbl5 := hin.lt
  have HB5 := hide hb5'
  have HIN := hide hin
  have HRES := hide hres
  clear hb5 hb5' hin hres hown5 e5 g4 k4 p4 q4 HOW HB4
  go_wp2
  refine bodyPost_ret (v := GrV (.slice (some ⟨b5, 0, none⟩) n' cp5) r5) (by simp [results, Try.results21, go_sem, g5, k5]) rfl ⟨⟨_, _, n', f', rfl, .inr ⟨unhide HNB, unhide HRES⟩, .inr ⟨((unhide HRES).bound (unhide HX).1).1, b5, cp5, rfl, by omega, by simpa using hbl5, ?_⟩⟩, ?_⟩
  · exact (unhide HIN).of_block ((Deep.blk_setCell_other _ _ _ _ (by show b5 ≠ w.heap.size + 1; omega)).trans (Deep.blk_setCell_other _ _ _ _ (by show b5 ≠ w.heap.size + 1; omega)))
  · exact ((unhide HB5).setCell (by show _ ≤ w.heap.size + 1; omega) _).setCell (by show _ ≤ w.heap.size + 1; omega) _
end Go.Proofs.Ytgiegkigfokdmab
