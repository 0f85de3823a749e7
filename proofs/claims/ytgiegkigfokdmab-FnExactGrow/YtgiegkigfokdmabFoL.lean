/-
  Shapes: the model's Grow.
-/
import Derived.Test.YtgiegkigfokdmabFoI
import Derived.BigRegion
namespace Go.Proofs.Ytgiegkigfokdmab
open Go.RowKit
set_option linter.unusedVariables false

/-- Shape j is shape i with one key more. -/
def Kid (n : Nat) (f : Nat → Shp) (i : Nat) (key : ByteArray) (j : Nat) : Prop := 0 < j ∧ j < n ∧ (f j).parent = i ∧ (f j).key.toList = key.toList

theorem Kid.unique {n : Nat} {f : Nat → Shp} {i : Nat} {key : ByteArray} {j k : Nat} (h4 : Rule4 n f) (hj : Kid n f i key j) (hk : Kid n f i key k) : j = k := by
  obtain ⟨a1, a2, a3, a4⟩ := hj
  obtain ⟨b1, b2, b3, b4⟩ := hk
  rcases Nat.lt_trichotomy j k with h | h | h
  · exact absurd ⟨a3.trans b3.symm, a4.trans b4.symm⟩ (h4 k j a1 h b2)
  · exact h
  · exact absurd ⟨b3.trans a3.symm, b4.trans a4.symm⟩ (h4 j k b1 h a2)

/-- The forest with one shape more. -/
def grown (f : Nat → Shp) (n i : Nat) (key : ByteArray) (j : Nat) : Shp := if j = n then ⟨i, key, (f i).count + 1⟩ else f j

/-- What growing answers: how many shapes, which, and the shape's number. -/
def GRes (n : Nat) (f : Nat → Shp) (i : Nat) (key : ByteArray) (n' : Nat) (f' : Nat → Shp) (r : Int) : Prop :=
  (∃ j, Kid n f i key j ∧ r = j ∧ n' = n ∧ f' = f) ∨
  ((∀ j, ¬ Kid n f i key j) ∧ ((f i).count = 12 ∨ n = 200) ∧ r = -1 ∧ n' = n ∧ f' = f) ∨
  ((∀ j, ¬ Kid n f i key j) ∧ (f i).count ≠ 12 ∧ n ≠ 200 ∧ r = n ∧ n' = n + 1 ∧ f' = grown f n i key)

theorem GRes.unique {n : Nat} {f : Nat → Shp} {i : Nat} {key : ByteArray} {n1 n2 : Nat} {f1 f2 : Nat → Shp} {r1 r2 : Int} (h4 : Rule4 n f) (h : GRes n f i key n1 f1 r1) (h' : GRes n f i key n2 f2 r2) : n1 = n2 ∧ f1 = f2 ∧ r1 = r2 := by
  rcases h with ⟨j, a1, a2, a3, a4⟩ | ⟨a1, a2, a3, a4, a5⟩ | ⟨a1, a2, a3, a4, a5, a6⟩
  · rcases h' with ⟨k, b1, b2, b3, b4⟩ | ⟨b1, _⟩ | ⟨b1, _⟩
    · have := a1.unique h4 b1
      subst this
      exact ⟨a3.trans b3.symm, a4.trans b4.symm, a2.trans b2.symm⟩
    · exact absurd a1 (b1 j)
    · exact absurd a1 (b1 j)
  · rcases h' with ⟨k, b1, b2, b3, b4⟩ | ⟨b1, b2, b3, b4, b5⟩ | ⟨b1, b2, b3, b4, b5, b6⟩
    · exact absurd b1 (a1 k)
    · exact ⟨a4.trans b4.symm, a5.trans b5.symm, a3.trans b3.symm⟩
    · rcases a2 with h | h
      · exact absurd h b2
      · exact absurd h b3
  · rcases h' with ⟨k, b1, b2, b3, b4⟩ | ⟨b1, b2, b3, b4, b5⟩ | ⟨b1, b2, b3, b4, b5, b6⟩
    · exact absurd b1 (a1 k)
    · rcases b2 with h | h
      · exact absurd h a2
      · exact absurd h a3
    · exact ⟨a5.trans b5.symm, a6.trans b6.symm, a4.trans b4.symm⟩

theorem shL_grown (f : Nat → Shp) (n i : Nat) (key : ByteArray) : shL f n ++ [.int .i64 (i : Int), .string key, .int .i64 ((f i).count + 1)] = shL (grown f n i key) (n + 1) := by
  rw [← shL_snoc (grown f n i key) n ⟨i, key, (f i).count + 1⟩ (by simp [grown])]
  rw [shL_congr (f := f) (g := grown f n i key) (fun j hj => by unfold grown; rw [if_neg (by omega)])]

theorem ShOwn.cells {w : World} {base b n cp : Nat} {f : Nat → Shp} (h : ShOwn w base (.slice (some ⟨b, 0, none⟩) n cp) n f) {i : Nat} (hi : i < n) :
    w.cell? ⟨b, i * 3, none⟩ = some (.int .i64 (f i).parent) ∧ w.cell? ⟨b, i * 3 + 1, none⟩ = some (.string (f i).key) ∧ w.cell? ⟨b, i * 3 + 2, none⟩ = some (.int .i64 (f i).count) :=
  ⟨by rw [World.ownsRow.cellAt h _ (by omega), shL_get (by omega), cellOf0], by rw [World.ownsRow.cellAt h _ (by omega), shL_get (by omega), cellOf1], by rw [World.ownsRow.cellAt h _ (by omega), shL_get (by omega), cellOf2]⟩

/-- All blocks below base are as they were, but for block ob. -/
structure ButBelow (base ob : Nat) (w w' : World) : Prop where
  os : w'.os = w.os
  tape : w'.tape = w.tape
  output : w'.output = w.output
  size : w.heap.size ≤ w'.heap.size
  block : ∀ k, k < base → k ≠ ob → w'.heap[k]? = w.heap[k]?

theorem ButBelow.of {base ob : Nat} {w w' : World} (h : Below w.heap.size w w') (hb : base ≤ w.heap.size) : ButBelow base ob w w' := ⟨h.os, h.tape, h.output, h.size, fun k hk _ => h.block k (by omega)⟩

theorem cell_alloc {w : World} {o : Obj} {a : Addr} {v : Value} (h : w.cell? a = some v) : (w.alloc o).cell? a = some v := by rw [World.cell?_alloc_lt _ _ _ (World.block_lt_of_cell? w a h)]; exact h

set_option maxRecDepth 100000 in
set_option maxHeartbeats 2000000 in
theorem l2grow_any (ob b n cp i base : Nat) (key : ByteArray) (f : Nat → Shp) (w : World) (hbox : w.cell? ⟨ob, 0, none⟩ = some (.slice (some ⟨b, 0, none⟩) n cp)) (hfz : w.frozen? ⟨ob, 0, none⟩ = false) (hO : ShOwn w base (.slice (some ⟨b, 0, none⟩) n cp) n f) (hob : ob ≠ b) (hobl : ob < w.heap.size) (hbase : base ≤ w.heap.size)
    (h1 : Rule1 n) (h2 : Rule2 f) (h3 : Rule3 n f) (hi : i < n) :
    Calls Try.prog 44 #[.pointer (some ⟨ob, 0, none⟩), .int .i64 i, .string key] w fun e w' => (∃ r n' f', e = .returned (.int .i64 r) ∧ GRes n f i key n' f' r ∧ ∃ b' cp', ob ≠ b' ∧ w'.frozen? ⟨ob, 0, none⟩ = false ∧ w'.cell? ⟨ob, 0, none⟩ = some (.slice (some ⟨b', 0, none⟩) n' cp') ∧ ShOwn w' base (.slice (some ⟨b', 0, none⟩) n' cp') n' f') ∧ ButBelow base ob w w' := by
  have hn2 : n ≤ 200 := h1.2
  obtain ⟨i0, hi0, hz0, hz1, hz2⟩ := info_parts infoShape
  obtain ⟨hc0, hc1⟩ := count_bound (k := n) h2 (fun j h1 h2 => h3 j h1 h2) i hi
  have hbb := (hO.lt b rfl).1
  have hbl := (hO.lt b rfl).2
  have HO := hide hO
  clear hO h1 h2 h3
  go_enter Try.func44, Try.ntmps44
  go_wp2
  go_loopw [14] (fun v wr => ∃ k : Nat, k ≤ n ∧ v = .int .i64 k ∧ Below w.heap.size w wr ∧ ∀ j, j < k → ¬ Kid n f i key j) (fun v _ => n - (intOf v).toNat)
  case atStart => exact ⟨0, by omega, rfl, Below.refl _ _, fun j hj => by omega⟩
  case round =>
    obtain ⟨k, hk, rfl, hb, hall⟩ := hrel
    have hOr : ShOwn wr base (.slice (some ⟨b, 0, none⟩) n cp) n f := (unhide HO).kept ⟨hb.os, hb.tape, hb.output, hb.size, fun q hq _ => hb.block q hq⟩ (.inr (by simp [Value.ownBlock])) (row := none)
    have xb : wr.cell? ⟨ob, 0, none⟩ = some (.slice (some ⟨b, 0, none⟩) n cp) := (hb.cell (by show ob < w.heap.size; omega)).trans hbox
    have xf : wr.frozen? ⟨ob, 0, none⟩ = false := (World.frozen?_of_block (hb.block ob (by omega))).trans hfz
    have hz : w.heap.size ≤ wr.heap.size := hb.size
    have HB := hide hb
    have HOR := hide hOr
    have HALL := hide hall
    clear hb hall hOr
    by_cases hkn : k < n
    · obtain ⟨d0, d1, d2⟩ := (unhide HOR).cells hkn
      by_cases hk0 : k = 0
      · subst hk0
        go_wp2
        go_roundw
        case rel => exact ⟨1, by omega, by go_num, (unhide HB).alloc (by omega) _, fun j hj hK => by have := hK.1; omega⟩
        case measure => simp [intOf]; omega
      have hk1 : decide ((0 : Int) < k) = true := by simp; omega
      have hk2 : 0 < k := by omega
      by_cases hP : (f k).parent = i
      · by_cases hK : (f k).key.toList = key.toList
        · have e1 : ((f k).parent == (i : Int)) = true := by simp [hP]
          have e2 : ((f k).key.toList == key.toList) = true := by simp [hK]
          have HKd : Hid (Kid n f i key k) := hide ⟨hk2, hkn, hP, hK⟩
          clear hP hK
          go_wp2
          go_ret
          exact ⟨⟨k, n, f, rfl, .inl ⟨k, unhide HKd, rfl, rfl, rfl⟩, b, cp, hob, (World.frozen?_of_block (w := wr) (Deep.blk_alloc_lt _ _ _ (by show ob < wr.heap.size; omega))).trans xf, cell_alloc xb, (unhide HOR).alloc _⟩, .of ((unhide HB).alloc (by omega) _) hbase⟩
        · have e1 : ((f k).parent == (i : Int)) = true := by simp [hP]
          have e2 : ((f k).key.toList == key.toList) = false := by simp [hK]
          have HNK : Hid (¬ Kid n f i key k) := hide (fun h => hK h.2.2.2)
          clear hP hK
          go_wp2
          go_roundw
          case rel =>
            refine ⟨k + 1, by omega, by go_num, (unhide HB).alloc (by omega) _, fun j hj => ?_⟩
            by_cases e : j = k
            · rw [e]; exact unhide HNK
            · exact unhide HALL j (by omega)
          case measure => simp [intOf]; omega
      · have e1 : ((f k).parent == (i : Int)) = false := by simp [hP]
        have HNK : Hid (¬ Kid n f i key k) := hide (fun h => hP h.2.2.1)
        clear hP
        go_wp2
        go_roundw
        case rel =>
          refine ⟨k + 1, by omega, by go_num, (unhide HB).alloc (by omega) _, fun j hj => ?_⟩
          by_cases e : j = k
          · rw [e]; exact unhide HNK
          · exact unhide HALL j (by omega)
        case measure => simp [intOf]; omega
    · have HNO : Hid (∀ j, ¬ Kid n f i key j) := hide (fun j hK => unhide HALL j (by have := hK.2.1; omega) hK)
      obtain ⟨d0, d1, d2⟩ := (unhide HOR).cells hi
      by_cases h12 : (f i).count = 12
      · have e1 : ((f i).count == 12) = true := by simp [h12]
        have H12 := hide h12
        clear h12
        go_wp2
        go_ret
        exact ⟨⟨-1, n, f, rfl, .inr (.inl ⟨unhide HNO, .inl (unhide H12), rfl, rfl, rfl⟩), b, cp, hob, xf, xb, unhide HOR⟩, .of (unhide HB) hbase⟩
      · have e1 : ((f i).count == 12) = false := by simp [h12]
        by_cases h200 : n = 200
        · have e2 : ((n : Int) == 200) = true := by simp [h200]
          have H200 := hide h200
          clear h200
          go_wp2
          go_ret
          exact ⟨⟨-1, n, f, rfl, .inr (.inl ⟨unhide HNO, .inr (unhide H200), rfl, rfl, rfl⟩), b, cp, hob, xf, xb, unhide HOR⟩, .of (unhide HB) hbase⟩
        · have e2 : ((n : Int) == 200) = false := by simp; omega
          have HX := hide (And.intro h12 h200)
          have hw : IntKind.i64.wrap ((f i).count + 1) = (f i).count + 1 := by rw [IntKind.wrap_i64]; omega
          have hn1 : n + 1 ≤ 200 := by omega
          clear h12 d0 d1
          go_wp2
          have hobw : ob < wr.heap.size := by omega
          have hbw : b < wr.heap.size := by omega
          obtain ⟨ns, hns⟩ : ∃ ns : List Value, ns = [.int .i64 (i : Int), .string key, .int .i64 ((f i).count + 1)] := ⟨_, rfl⟩
          have HOA : Hid ((wr.alloc (.cells #[.int .i64 (i : Int), .string key, .int .i64 ((f i).count + 1)] 56)).drew.ownsRow base 56 3 (.slice (some ⟨b, 0, none⟩) n cp) n (shL f n)) := hide ((unhide HOR).alloc _).drew
          have HNA : Hid (∀ j u, ns[j]? = some u → (wr.alloc (.cells #[.int .i64 (i : Int), .string key, .int .i64 ((f i).count + 1)] 56)).drew.cell? ((⟨wr.heap.size, 0, none⟩ : Addr).add j) = some u) := hide (by rw [hns]; exact World.news_of_block (Deep.blk_alloc_new wr (.cells #[.int .i64 (i : Int), .string key, .int .i64 ((f i).count + 1)] 56)))
          have hnl : ns.length = 1 * 3 := by rw [hns]; rfl
          have hn1c : ∀ u ∈ ns, u.oneCell' = true := by rw [hns]; simp [Value.oneCell']
          have hba : base ≤ (wr.alloc (.cells #[.int .i64 (i : Int), .string key, .int .i64 ((f i).count + 1)] 56)).drew.heap.size := by simp; omega
          have HNS := hide hns
          have HXA : Hid ((wr.alloc (.cells #[.int .i64 (i : Int), .string key, .int .i64 ((f i).count + 1)] 56)).drew.cell? ⟨ob, 0, none⟩ = some (.slice (some ⟨b, 0, none⟩) n cp) ∧ (wr.alloc (.cells #[.int .i64 (i : Int), .string key, .int .i64 ((f i).count + 1)] 56)).drew.frozen? ⟨ob, 0, none⟩ = false) := hide ⟨cell_alloc xb, (World.frozen?_of_block (w := wr) (Deep.blk_alloc_lt _ _ _ hobw)).trans xf⟩
          have hobb : some ob ≠ (Value.slice (some ⟨b, 0, none⟩) n cp).ownBlock := by simpa [Value.ownBlock] using hob
          clear hns
          go_region_law (refine step_append_lies _ rfl (.tmp 56) (.tmp 69) 27 rfl base 56 i0 (Sh 0 ⟨#[]⟩ 0) 3 32 Try.underlying27 hi0 hz0 hz1 hz2 rfl (by decide) (.slice (some ⟨b, 0, none⟩) n cp) n (shL f n) (by simp [Act.eval]) (unhide HOA) ⟨wr.heap.size, 0, none⟩ 1 1 ns (by simp [Act.eval]) hnl (unhide HNA) hn1c (by decide) (by unfold maxLen; omega) (by omega) hba _ rfl ?_; intro g3 cp3 w3 hown3 hgr3 hloc3 hlt3; have y3 : w3.cell? ⟨ob, 0, none⟩ = some (.slice (some ⟨b, 0, none⟩) n cp) := hgr3.cell (unhide HXA).1 hobb; have e3 : w3.frozen? ⟨ob, 0, none⟩ = false := (World.frozen?_of_block (hgr3.block ob (by simp; omega) hobb)).trans (unhide HXA).2; have HO3 := hide hown3; have HG3 := hide hgr3; clear hown3 hgr3)
          all_goals
            have ho3 : ShOwn w3 base (.slice (some ⟨g3, 0, none⟩) (n + 1) cp3) (n + 1) (grown f n i key) := by
              have h := unhide HO3
              rw [unhide HNS, shL_grown] at h
              exact h
            have hg3 : g3 ≠ ob := by
              rcases hloc3 with h | h
              · simp [Value.ownBlock] at h; omega
              · simp at h; omega
            have hbb3 : ButBelow base ob w (w3.setCell ⟨ob, 0, none⟩ (.slice (some ⟨g3, 0, none⟩) (n + 1) cp3)) := by
              have hG := unhide HG3
              have hBw := unhide HB
              have hs3 : wr.heap.size + 1 ≤ w3.heap.size := by have := hG.size; simpa using this
              refine ⟨hG.os.trans hBw.os, hG.tape.trans hBw.tape, hG.output.trans hBw.output, by simp; omega, fun q hq hne => ?_⟩
              rw [Deep.blk_setCell_other _ _ _ _ hne, hG.block q (by simp; omega) (by simp [Value.ownBlock]; omega)]
              exact (Deep.blk_alloc_lt wr _ q (by omega)).trans (hBw.block q (by omega))
            have HO4 := hide ho3
            have HBB := hide hbb3
            clear ho3 hbb3 HG3 HO3 HOA HNA HXA hnl hn1c hba
            go_wp2
            go_ret
            refine ⟨⟨n, n + 1, grown f n i key, by first | rfl | simp, .inr (.inr ⟨unhide HNO, (unhide HX).1, (unhide HX).2, rfl, rfl, rfl⟩), g3, cp3, fun e => hg3 e.symm, by rw [World.frozen?_setCell]; exact e3, ?_, (unhide HO4).kept (grown_setCell w3 _ _) (.inr (by simp [Value.ownBlock]; omega))⟩, unhide HBB⟩
            simp [go_sem, y3]
end Go.Proofs.Ytgiegkigfokdmab
