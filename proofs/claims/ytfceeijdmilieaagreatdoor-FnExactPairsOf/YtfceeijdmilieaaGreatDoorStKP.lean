/-
  StK.
-/
import Derived.Test.YtfceeijdmilieaaGreatDoorStJP
import Derived.Test.YtfceeijdmilieaaGreatDoorStCP
import Derived.Handy
namespace Go.Proofs.YtfceeijdmilieaaGreatDoor
open Go.RowKit
set_option linter.unusedVariables false
attribute [local go_sem] run_store_float run_equalIn_float

/-- A row of tables, its rows at known addresses. -/
def TAtA (w : World) (a : Option Addr) (n : Nat) (f : Nat → Tb) (A : Nat → Ad) : Prop :=
  n = 0 ∨ ∃ b off, a = some ⟨b, off, none⟩ ∧ b < w.heap.size ∧ ∀ i, i < n → TCell w b (off + i * 8) (A i).va (A i).vc (A i).la (A i).lc (A i).ia (A i).ic (A i).xa (A i).xc (f i) ∧ VAt w (A i).va (f i).nv (f i).V ∧ DAt w (A i).la (A i).ia (A i).xa (f i).d
theorem TAt.addr {w : World} {a : Option Addr} {n : Nat} {f : Nat → Tb} (h : TAt w a n f) : ∃ A, TAtA w a n f A := by
  rcases h with h | ⟨b, off, e, hlt, hc⟩
  · exact ⟨fun _ => default, .inl h⟩
  · have h2 : ∀ i, ∃ A : Ad, i < n → TCell w b (off + i * 8) A.va A.vc A.la A.lc A.ia A.ic A.xa A.xc (f i) ∧ VAt w A.va (f i).nv (f i).V ∧ DAt w A.la A.ia A.xa (f i).d := fun i => by
      by_cases hi : i < n
      · obtain ⟨va, vc, la, lc, ia, ic, xa, xc, h1⟩ := hc i hi
        exact ⟨⟨va, vc, la, lc, ia, ic, xa, xc⟩, fun _ => h1⟩
      · exact ⟨default, fun h => absurd h hi⟩
    obtain ⟨A, hA⟩ := Classical.skolem.1 h2
    exact ⟨A, .inr ⟨b, off, e, hlt, hA⟩⟩
theorem TAtA.below {w w' : World} {a : Option Addr} {n : Nat} {f : Nat → Tb} {A : Nat → Ad} (h : TAtA w a n f A) (hb : Below w.heap.size w w') : TAtA w' a n f A := by
  rcases h with h | ⟨b, off, e, hlt, hc⟩
  · exact .inl h
  · exact .inr ⟨b, off, e, Nat.lt_of_lt_of_le hlt hb.size, fun i hi => ⟨(hc i hi).1.keepAt (fun q _ => hb.cell (p := ⟨b, off + i * 8 + q, none⟩) hlt), (hc i hi).2.1.below hb rfl, (hc i hi).2.2.below hb⟩⟩
theorem TAtA.one {w : World} {a : Option Addr} {n : Nat} {f : Nat → Tb} {A : Nat → Ad} (h : TAtA w a n f A) {i : Nat} (hi : i < n) : VAt w (A i).va (f i).nv (f i).V ∧ DAt w (A i).la (A i).ia (A i).xa (f i).d := by
  rcases h with h | ⟨b, off, e, hlt, hc⟩
  · omega
  · exact (hc i hi).2

/-- A table as the program keeps it. -/
def kindV (B : Nat → Nat) (A : Ad) (t : Tb) : Value := if t.shape = -1 then .iface 202 (HdA A t) else .iface 199 (ShdA (B t.shape.toNat) A t)
def kL (B : Nat → Nat) (A : Nat → Ad) (s : Sto) (k : Nat) : List Value := (List.range k).map fun i => kindV B (A i) (s.T i)
theorem kL_snoc (B : Nat → Nat) (A : Nat → Ad) (s : Sto) (k : Nat) : kL B A s k ++ [kindV B (A k) (s.T k)] = kL B A s (k + 1) := by
  unfold kL; rw [List.range_succ, List.map_append]; rfl
theorem kL_get {B : Nat → Nat} {A : Nat → Ad} {s : Sto} {k i : Nat} (h : i < k) : (kL B A s k)[i]? = some (kindV B (A i) (s.T i)) := by simp [kL, h]
theorem kindV_one (B : Nat → Nat) (A : Ad) (t : Tb) : (kindV B A t).oneCell' = true := by
  unfold kindV
  split <;> rfl
theorem infoKept : (Tryz.prog.info? 124).map (fun i => (i.zero, i.size, i.bytes)) = some (some .nilIface, 1, 16) := by kernel_rfl

theorem own_belowK {w w' : World} {base e size : Nat} {v : Value} {n : Nat} {xs : List Value} (h : w.ownsRow base e size v n xs) (hb : Below w.heap.size w w') : w'.ownsRow base e size v n xs := by
  obtain ⟨hl, ⟨hv, h0⟩ | ⟨g', cap, cur, hv, hbs, hblk, h1, h2, h3, h4⟩⟩ := h
  · exact ⟨hl, .inl ⟨hv, h0⟩⟩
  · refine ⟨hl, .inr ⟨g', cap, cur, hv, hbs, ?_, h1, h2, h3, h4⟩⟩
    rw [hb.block g' (Array.getElem?_eq_some_iff.1 hblk).1]
    exact hblk

theorem Nd.keepFrom {w w' : World} {s : Sto} {b0 g : Nat} {B N : Nat → Nat} {M : Nat → Option Nat} (h : Nd w s b0 g B N M) (hk : ∀ b, b0 ≤ b → b < w.heap.size → w'.heap[b]? = w.heap[b]?) (hg : w'.heap[g]? = w.heap[g]?) : Nd w' s b0 g B N M :=
  ⟨{ h.ns with
    node := fun i hi hn => (h.ns.node i hi hn).of_block (hk _ (h.ns.base i hi) (World.rowIs.lt (h.ns.node i hi hn)))
    kids := fun i m hi hn hm => by
      obtain ⟨g, hg, hK⟩ := h.ns.kids i m hi hn hm
      obtain ⟨es, c, hc⟩ := hg.isMap
      exact ⟨g, hg.block (hk _ (h.ns.mbase i m hi hn hm) (Array.getElem?_eq_some_iff.1 hc).1), hK⟩ }, h.id, heap_lt hg h.lt, fun i hi => (World.cell?_of_block hg).trans (h.cel i hi)⟩
theorem Nd.rebase {w : World} {s : Sto} {b0 b1 g : Nat} {B N : Nat → Nat} {M : Nat → Option Nat} (h : Nd w s b0 g B N M) (hb : b1 ≤ b0) : Nd w s b1 g B N M := ⟨h.ns.rebase hb, h.id, h.lt, h.cel⟩
theorem own_blockK {w w' : World} {base e size : Nat} {v : Value} {n : Nat} {xs : List Value} (h : w.ownsRow base e size v n xs) (hk : ∀ q, base ≤ q → q < w.heap.size → w'.heap[q]? = w.heap[q]?) : w'.ownsRow base e size v n xs := by
  obtain ⟨hl, ⟨hv, h0⟩ | ⟨g', cap, cur, hv, hbs, hblk, h1, h2, h3, h4⟩⟩ := h
  · exact ⟨hl, .inl ⟨hv, h0⟩⟩
  · refine ⟨hl, .inr ⟨g', cap, cur, hv, hbs, ?_, h1, h2, h3, h4⟩⟩
    rw [hk g' hbs (Array.getElem?_eq_some_iff.1 hblk).1]
    exact hblk

/-- What judgeStore answers. -/
def JudgedS (w0 : World) (s : Sto) (D : Nat → Int) (A : Nat → Ad) (e : Ending) (w : World) : Prop :=
  (∃ r : Int, e = .returned (.tuple #[.agg #[.slice none 0 0, .slice none 0 0], .int .i64 r]) ∧ r = storeOk s D ∧ r ≠ 0) ∨
  (∃ g cp B N M v b1, e = .returned (.tuple #[.agg #[.slice (some ⟨g, 0, none⟩) s.nf cp, v], .int .i64 0]) ∧ storeOk s D = 0 ∧ Nd w s w0.heap.size g B N M ∧ w0.heap.size ≤ b1 ∧ w.ownsRow b1 124 1 v s.nt (kL B A s s.nt))

set_option maxRecDepth 100000 in
set_option maxHeartbeats 8000000 in
theorem judgeStore_any (T : World → Prop) (hL : Lasts T) (m fc : Nat) (ta : Option Addr) (tc : Nat) (sa : Option Addr) (sc : Nat) (s : Sto) (D : Nat → Int) (A : Nat → Ad) (w : World) (hTw : T w) (hF : ShRow w m s.nf s.F) (hT : TAtA w ta s.nt s.T A) (hS : SiAt w sa s.ns s.S) (hs : SSmall s) (hk : ∀ i, i < s.ns → (s.S i).key.size ≤ maxLen)
    (hD : ∀ i, i < s.nt → ∀ la lc ia ic xa xc, ImplD T la lc ia ic xa xc (s.T i).d (D i)) :
    Calls Tryz.prog 33 #[StV (some ⟨m, 0, none⟩) fc ta tc sa sc s] w fun e w' => JudgedS w s D A e w' ∧ Below w.heap.size w w' := by
  have hml := hF.lt
  have hnt := hs.nt
  have hns := hs.n
  have hnf := hs.f.1
  obtain ⟨i0, hi, hz0, hzs, hzb⟩ := info_parts infoKept
  have HSM := hide hs
  have HK := hide hk
  have HD := hide hD
  obtain ⟨W, hW⟩ : ∃ W, W = (w.alloc (.cells #[.slice (some ⟨m, 0, none⟩) s.nf fc, .slice ta s.nt tc, .slice sa s.ns sc] 29)).alloc (.cells #[.slice none 0 0, .slice none 0 0] 84) := ⟨_, rfl⟩
  have hbW : Below w.heap.size w W := by rw [hW]; exact ((Below.refl _ _).alloc (Nat.le_refl _) _).alloc (by simp) _
  have hzW : W.heap.size = w.heap.size + 1 + 1 := by rw [hW]; simp
  have x0 : W.cell? ⟨w.heap.size, 0, none⟩ = some (.slice (some ⟨m, 0, none⟩) s.nf fc) := by rw [hW]; simp [go_sem]
  have x1 : W.cell? ⟨w.heap.size, 1, none⟩ = some (.slice ta s.nt tc) := by rw [hW]; simp [go_sem]
  have x2 : W.cell? ⟨w.heap.size, 2, none⟩ = some (.slice sa s.ns sc) := by rw [hW]; simp [go_sem]
  have r0 : W.cell? ⟨w.heap.size + 1, 0, none⟩ = some (.slice none 0 0) := by rw [hW]; simp [go_sem]
  have r1 : W.cell? ⟨w.heap.size + 1, 1, none⟩ = some (.slice none 0 0) := by rw [hW]; simp [go_sem]
  have f0 : W.frozen? ⟨w.heap.size + 1, 0, none⟩ = false := by rw [hW]; simp [go_sem]
  have f1 : W.frozen? ⟨w.heap.size + 1, 1, none⟩ = false := by rw [hW]; simp [go_sem]
  have lm : m < W.heap.size := by omega
  have lw : w.heap.size < W.heap.size := by omega
  have lr : w.heap.size + 1 < W.heap.size := by omega
  have HF := hide (hF.below hbW hml)
  have HT := hide (hT.below hbW)
  have HS := hide (hS.below hbW rfl)
  have HTw := hide (hL _ _ hTw hbW)
  have HBW := hide hbW
  have HZ := hide hzW
  clear hs hk hD hbW hF hT hS hTw hzW
  go_enter Tryz.func33, Tryz.ntmps33
  go_wp2_with fail
  rw [← hW]
  clear hW
  refine (judge_any m s.nf fc s.F _ (unhide HF) hnf).mono ?_
  rintro e w1 ⟨hj, hb1⟩
  have y1 := (hb1.cell (p := ⟨w.heap.size, 1, none⟩) lw).trans x1
  have y2 := (hb1.cell (p := ⟨w.heap.size, 2, none⟩) lw).trans x2
  have s0 := (hb1.cell (p := ⟨w.heap.size + 1, 0, none⟩) lr).trans r0
  have s1 := (hb1.cell (p := ⟨w.heap.size + 1, 1, none⟩) lr).trans r1
  have g0 := (hb1.frozen (p := ⟨w.heap.size + 1, 0, none⟩) lr).trans f0
  have g1 := (hb1.frozen (p := ⟨w.heap.size + 1, 1, none⟩) lr).trans f1
  have lw1 : w.heap.size < w1.heap.size := Nat.lt_of_lt_of_le lw hb1.size
  have lr1 : w.heap.size + 1 < w1.heap.size := Nat.lt_of_lt_of_le lr hb1.size
  have HB1 := hide ((unhide HBW).trans (hb1.mono (unhide HBW).size))
  rcases hj with ⟨r, rfl, hr, hr0⟩ | ⟨g, cp, B, N, M, rfl, h1, hN, hid, hgl, hgc⟩
  · have hne : (r != 0) = true := by simpa using hr0
    have HO := hide (storeOk1 (s := s) (D := D) (by rw [← hr]; exact hr0))
    clear hb1 hr hr0
    go_wp2
    refine bodyPost_ret (v := .tuple #[.agg #[.slice none 0 0, .slice none 0 0], .int .i64 1]) (by simp [results, Tryz.results33, go_sem, s0, s1]) rfl ⟨.inl ⟨1, rfl, (unhide HO).symm, by decide⟩, ?_⟩
    repeat (refine Below.setCell ?_ (by show w.heap.size ≤ w.heap.size + 1; omega) _)
    exact unhide HB1
  have H1 := hide h1
  have hgne : g ≠ w.heap.size + 1 := fun e => by
    have h00 := hgc 0 (by have := (forestOk_zero h1).1.1; omega)
    rw [e, s0] at h00
    cases h00
  have HNd : Hid (Nd w1 s (w.heap.size + 1 + 1) g B N M) := hide ⟨(unhide HZ) ▸ hN, hid, hgl, hgc⟩
  have HT1 := hide ((unhide HT).below hb1)
  have HS1 := hide ((unhide HS).below hb1 rfl)
  have HTw1 := hide (hL _ _ (unhide HTw) hb1)
  clear h1 hN hid hgc hb1 x0 x1 x2 r0 r1 f0 f1 HF HT HS
  by_cases h2 : 100 < s.nt
  · have HO := hide (storeOk2 (D := D) (unhide H1) (fun h => by omega))
    go_wp2
    refine bodyPost_ret (v := .tuple #[.agg #[.slice none 0 0, .slice none 0 0], .int .i64 2]) (by simp [results, Tryz.results33, go_sem, s0, s1]) rfl ⟨.inl ⟨2, rfl, (unhide HO).symm, by decide⟩, ?_⟩
    repeat (refine Below.setCell ?_ (by show w.heap.size ≤ w.heap.size + 1; omega) _)
    exact unhide HB1
  by_cases h3 : 50 < s.ns
  · have HO := hide (storeOk2 (D := D) (unhide H1) (fun h => by omega))
    go_wp2
    refine bodyPost_ret (v := .tuple #[.agg #[.slice none 0 0, .slice none 0 0], .int .i64 2]) (by simp [results, Tryz.results33, go_sem, s0, s1]) rfl ⟨.inl ⟨2, rfl, (unhide HO).symm, by decide⟩, ?_⟩
    repeat (refine Below.setCell ?_ (by show w.heap.size ≤ w.heap.size + 1; omega) _)
    exact unhide HB1
  have H2 : Hid (s.nt ≤ 100 ∧ s.ns ≤ 50) := hide ⟨by omega, by omega⟩
  go_wp2
  go_loopw [6, 35] (fun v i wr => ∃ (k : Nat), k ≤ s.nt ∧ i = .int .i64 k ∧ wr.ownsRow w1.heap.size 124 1 v k (kL B A s k) ∧ Below w1.heap.size w1 wr ∧ ∀ q, q < k → okT s (D q) (s.T q)) (fun _ i _ => s.nt - (intOf i).toNat)
  case atStart => exact ⟨0, by omega, rfl, World.ownsRow_nil _ _ _ _, Below.refl _ _, fun q hq => by omega⟩
  case round =>
    obtain ⟨k, hk, rfl, ho, hb, hall⟩ := hrel
    have p1 := (hb.cell (p := ⟨w.heap.size, 1, none⟩) lw1).trans y1
    have p2 := (hb.cell (p := ⟨w.heap.size, 2, none⟩) lw1).trans y2
    have hbz := hb.size
    by_cases hkn : k < s.nt
    case pos =>
      obtain ⟨b, off, rfl, hbl, hcs⟩ := (unhide HT1).resolve_left (by omega)
      obtain ⟨e0, e1, e2, e3, e4, e5, e6, e7⟩ := (hcs k hkn).1.keepAt (fun q _ => hb.cell (p := ⟨b, off + k * 8 + q, none⟩) hbl)
      have HB3 : Hid (∀ o, Below w.heap.size w (wr.alloc o)) := hide (fun o => ((unhide HB1).trans (hb.mono (by omega))).alloc (by omega) _)
      have HB4 : Hid (∀ o, Below w1.heap.size w1 (wr.alloc o)) := hide (fun o => hb.alloc (by omega) _)
      have HVD : Hid (VAt wr (A k).va (s.T k).nv (s.T k).V ∧ DAt wr (A k).la (A k).ia (A k).xa (s.T k).d ∧ T wr ∧ Nd wr s (w.heap.size + 1 + 1) g B N M) := hide ⟨(hcs k hkn).2.1.below hb rfl, (hcs k hkn).2.2.below hb, hL _ _ (unhide HTw1) hb, (unhide HNd).below hb⟩
      have hwl : w.heap.size < wr.heap.size := by omega
      have HALL := hide hall
      have HOW := hide ho
      have hltv := hide ho.lt
      have hnv := (unhide HSM).nv hkn
      clear hcs hall ho
      by_cases hsh : (s.T k).shape = -1
      · have HKV : Hid (kindV B (A k) (s.T k) = .iface 202 (HdA (A k) (s.T k))) := hide (if_pos hsh)
        have HOT : Hid (okT s (D k) (s.T k) ↔ ((s.T k).nv = 0 ∧ D k = 0)) := hide ⟨fun h => by rcases h with h | h; exact h.2; omega, fun h => .inl ⟨hsh, h⟩⟩
        rw [hsh] at e0
        clear hsh hb
        go_wp2_with fail
        refine (kindOf_none (some ⟨g, 0, none⟩) s.nf cp (A k) (s.T k) _).mono ?_
        rintro e w3 ⟨rfl, hb3⟩
        have z3 := hb3.size
        simp at z3
        have HB5 := hide ((unhide HB3 _).trans (hb3.mono (unhide HB3 _).size))
        have HB6 := hide ((unhide HB4 _).trans (hb3.mono (unhide HB4 _).size))
        have HB7 := hide (((Below.refl wr.heap.size wr).alloc (Nat.le_refl _) (.cells #[.int .i64 (-1), .slice (A k).va (s.T k).nv (A k).vc, .slice (A k).la (s.T k).d.n (A k).lc, .slice (A k).ia (s.T k).d.m (A k).ic, .slice (A k).xa (s.T k).d.x (A k).xc, .int .i64 (s.T k).d.used, .int .i64 (s.T k).d.live, .int .i64 (s.T k).d.turns] 93)).trans (hb3.mono (by simp)))
        clear e0 e1 e2 e3 e4 e5 e6 e7 p1 p2 hb3
        go_wp2_with fail
        refine (unshapedHolds_any T hL (A k).va (A k).vc (A k).la (A k).lc (A k).ia (A k).ic (A k).xa (A k).xc (s.T k) (D k) _ (hL _ _ (unhide HVD).2.2.1 (unhide HB7)) ((unhide HVD).1.below (unhide HB7) rfl) hnv ((unhide HVD).2.1.below (unhide HB7)) (unhide HD k hkn _ _ _ _ _ _)).mono ?_
        rintro e w4 ⟨rfl, hb4⟩
        have z4 := hb4.size
        have HB8 := hide ((unhide HB5).trans (hb4.mono (unhide HB5).size))
        have HB9 := hide ((unhide HB6).trans (hb4.mono (by omega)))
        have HO4 : Hid (w4.ownsRow w1.heap.size 124 1 u6 k (kL B A s k)) := hide (own_belowK (unhide HOW) ((unhide HB7).trans (hb4.mono (by omega))))
        clear hb4
        by_cases hO : okT s (D k) (s.T k)
        case neg =>
          rw [tells_no (fun c => hO ((unhide HOT).2 c))]
          have HO := hide (storeOk3 (D := D) (unhide H1) (unhide H2) (fun h => hO (h k hkn)))
          have s0 := ((unhide HB9).cell (p := ⟨w.heap.size + 1, 0, none⟩) lr1).trans s0
          have s1 := ((unhide HB9).cell (p := ⟨w.heap.size + 1, 1, none⟩) lr1).trans s1
          have g0 := ((unhide HB9).frozen (p := ⟨w.heap.size + 1, 0, none⟩) lr1).trans g0
          have g1 := ((unhide HB9).frozen (p := ⟨w.heap.size + 1, 1, none⟩) lr1).trans g1
          clear hO
          go_wp2
          refine bodyPost_ret (v := .tuple #[.agg #[.slice none 0 0, .slice none 0 0], .int .i64 3]) (by simp [results, Tryz.results33, go_sem, s0, s1]) rfl ⟨.inl ⟨3, rfl, (unhide HO).symm, by decide⟩, ?_⟩
          repeat (refine Below.setCell ?_ (by show w.heap.size ≤ w.heap.size + 1; omega) _)
          exact unhide HB8
        rw [tells_yes ((unhide HOT).1 hO)]
        have HOK := hide hO
        clear hO
        go_wp2_with (first | (at_builtin; refine wpList_append_lies _ rfl _ _ 82 rfl w1.heap.size 124 i0 .nilIface 1 16 Tryz.underlying82 hi hz0 hzs hzb rfl (by decide) u6 k (kL B A s k) rfl ((unhide HO4).alloc _) ⟨w4.heap.size, 0, none⟩ 1 1 [kindV B (A k) (s.T k)] rfl rfl (by rw [unhide HKV]; exact World.news_of_block (Deep.blk_alloc_new _ _)) (by intro u hu; rw [List.mem_singleton] at hu; subst hu; exact kindV_one _ _ _) (by decide) (by unfold maxLen; omega) (by omega) (by simp; omega) _ rfl ?_; intro g3 cp3 w5 hown3 hgr3 hloc3 hlt3; have HG3 := hide (((unhide HB9).alloc (by omega) _).trans (grown_below hgr3 (fun q e => (unhide hltv q e).1) (by simp; omega))); have HO5 := hide hown3; clear hown3 hgr3) | go_in)
        go_roundw
        case rel =>
          refine ⟨k + 1, by omega, by go_num, ?_, unhide HG3, fun q hq => ?_⟩
          · rw [← kL_snoc]; exact unhide HO5
          · by_cases e : q = k
            · subst e; exact unhide HOK
            · exact unhide HALL q (by omega)
        case measure => simp [intOf]; omega
      by_cases hth : 0 ≤ (s.T k).shape ∧ (s.T k).shape < s.nf
      case neg =>
        have HO := hide (storeOk3 (D := D) (unhide H1) (unhide H2) (fun h => by rcases h k hkn with q | q; exact hsh q.1; exact hth ⟨q.1, q.2.1⟩))
        have HSH := hide hsh
        have HTH := hide hth
        clear hsh hth hb
        go_wp2_with fail
        refine (kindOf_far (some ⟨g, 0, none⟩) s.nf cp (A k) (s.T k) (s.T k).shape _ (unhide HSH) (unhide HTH)).mono ?_
        rintro e w3 ⟨rfl, hb3⟩
        have HB5 := hide ((unhide HB3 _).trans (hb3.mono (unhide HB3 _).size))
        have HB6 := hide ((unhide HB4 _).trans (hb3.mono (unhide HB4 _).size))
        clear e0 e1 e2 e3 e4 e5 e6 e7 p1 p2 hb3
        have s0 := ((unhide HB6).cell (p := ⟨w.heap.size + 1, 0, none⟩) lr1).trans s0
        have s1 := ((unhide HB6).cell (p := ⟨w.heap.size + 1, 1, none⟩) lr1).trans s1
        have g0 := ((unhide HB6).frozen (p := ⟨w.heap.size + 1, 0, none⟩) lr1).trans g0
        have g1 := ((unhide HB6).frozen (p := ⟨w.heap.size + 1, 1, none⟩) lr1).trans g1
        go_wp2
        refine bodyPost_ret (v := .tuple #[.agg #[.slice none 0 0, .slice none 0 0], .int .i64 3]) (by simp [results, Tryz.results33, go_sem, s0, s1]) rfl ⟨.inl ⟨3, rfl, (unhide HO).symm, by decide⟩, ?_⟩
        repeat (refine Below.setCell ?_ (by show w.heap.size ≤ w.heap.size + 1; omega) _)
        exact unhide HB5
      obtain ⟨j, hj⟩ : ∃ j : Nat, (s.T k).shape = j := ⟨(s.T k).shape.toNat, by omega⟩
      have hjn : j < s.nf := by omega
      have HKV : Hid (kindV B (A k) (s.T k) = .iface 199 (ShdA (B j) (A k) (s.T k))) := hide (by unfold kindV; rw [if_neg hsh, hj]; rfl)
      have HOT : Hid (okT s (D k) (s.T k) ↔ okJ s j (s.T k)) := hide ⟨fun h => by
        rcases h with h | h
        · exact absurd h.1 hsh
        · have := h.2.2; rwa [hj] at this, fun h => .inr ⟨hth.1, hth.2, by rw [hj]; exact h⟩⟩
      rw [hj] at e0
      have hNw := (unhide HVD).2.2.2
      have hcg := hNw.cel j hjn
      obtain ⟨hBl, hB3⟩ := hNw.cnt hjn
      have hglr := hNw.lt
      clear hsh hth hj hNw hb
      · have HCG := hide hcg
        have HB3' := hide hB3
        clear hcg hB3
        go_wp2_with fail
        refine (kindOf_at g s.nf cp (B j) (A k) (s.T k) j _ hjn (by simp; omega) ((World.cell?_alloc_lt _ _ _ (by exact hglr)).trans (unhide HCG))).mono ?_
        rintro e w3 ⟨rfl, hb3⟩
        have z3 := hb3.size
        simp at z3
        have HB5 := hide ((unhide HB3 _).trans (hb3.mono (unhide HB3 _).size))
        have HB6 := hide ((unhide HB4 _).trans (hb3.mono (unhide HB4 _).size))
        have HB7 := hide (((Below.refl wr.heap.size wr).alloc (Nat.le_refl _) (.cells #[.int .i64 (j : Int), .slice (A k).va (s.T k).nv (A k).vc, .slice (A k).la (s.T k).d.n (A k).lc, .slice (A k).ia (s.T k).d.m (A k).ic, .slice (A k).xa (s.T k).d.x (A k).xc, .int .i64 (s.T k).d.used, .int .i64 (s.T k).d.live, .int .i64 (s.T k).d.turns] 93)).trans (hb3.mono (by simp)))
        clear e0 e1 e2 e3 e4 e5 e6 e7 p1 p2 hb3
        go_wp2_with fail
        refine (shapedHolds_any (A k).va (A k).vc (A k).la (A k).lc (A k).ia (A k).ic (A k).xa (A k).xc (s.T k) s j (B j) _ ((unhide HVD).1.below (unhide HB7) rfl) hnv (by omega) (((unhide HB7).cell (p := ⟨B j, 3, none⟩) hBl).trans (unhide HB3'))).mono ?_
        rintro e w4 ⟨rfl, hb4⟩
        have z4 := hb4.size
        have HB8 := hide ((unhide HB5).trans (hb4.mono (unhide HB5).size))
        have HB9 := hide ((unhide HB6).trans (hb4.mono (by omega)))
        have HO4 : Hid (w4.ownsRow w1.heap.size 124 1 u6 k (kL B A s k)) := hide (own_belowK (unhide HOW) ((unhide HB7).trans (hb4.mono (by omega))))
        clear hb4
        by_cases hO : okT s (D k) (s.T k)
        case neg =>
          rw [tells_no (fun c => hO ((unhide HOT).2 c))]
          have HO := hide (storeOk3 (D := D) (unhide H1) (unhide H2) (fun h => hO (h k hkn)))
          have s0 := ((unhide HB9).cell (p := ⟨w.heap.size + 1, 0, none⟩) lr1).trans s0
          have s1 := ((unhide HB9).cell (p := ⟨w.heap.size + 1, 1, none⟩) lr1).trans s1
          have g0 := ((unhide HB9).frozen (p := ⟨w.heap.size + 1, 0, none⟩) lr1).trans g0
          have g1 := ((unhide HB9).frozen (p := ⟨w.heap.size + 1, 1, none⟩) lr1).trans g1
          clear hO
          go_wp2
          refine bodyPost_ret (v := .tuple #[.agg #[.slice none 0 0, .slice none 0 0], .int .i64 3]) (by simp [results, Tryz.results33, go_sem, s0, s1]) rfl ⟨.inl ⟨3, rfl, (unhide HO).symm, by decide⟩, ?_⟩
          repeat (refine Below.setCell ?_ (by show w.heap.size ≤ w.heap.size + 1; omega) _)
          exact unhide HB8
        rw [tells_yes ((unhide HOT).1 hO)]
        have HOK := hide hO
        clear hO
        go_wp2_with (first | (at_builtin; refine wpList_append_lies _ rfl _ _ 82 rfl w1.heap.size 124 i0 .nilIface 1 16 Tryz.underlying82 hi hz0 hzs hzb rfl (by decide) u6 k (kL B A s k) rfl ((unhide HO4).alloc _) ⟨w4.heap.size, 0, none⟩ 1 1 [kindV B (A k) (s.T k)] rfl rfl (by rw [unhide HKV]; exact World.news_of_block (Deep.blk_alloc_new _ _)) (by intro u hu; rw [List.mem_singleton] at hu; subst hu; exact kindV_one _ _ _) (by decide) (by unfold maxLen; omega) (by omega) (by simp; omega) _ rfl ?_; intro g3 cp3 w5 hown3 hgr3 hloc3 hlt3; have HG3 := hide (((unhide HB9).alloc (by omega) _).trans (grown_below hgr3 (fun q e => (unhide hltv q e).1) (by simp; omega))); have HO5 := hide hown3; clear hown3 hgr3) | go_in)
        go_roundw
        case rel =>
          refine ⟨k + 1, by omega, by go_num, ?_, unhide HG3, fun q hq => ?_⟩
          · rw [← kL_snoc]; exact unhide HO5
          · by_cases e : q = k
            · subst e; exact unhide HOK
            · exact unhide HALL q (by omega)
        case measure => simp [intOf]; omega
    have hke : k = s.nt := by omega
    have H3 : Hid (∀ q, q < s.nt → okT s (D q) (s.T q)) := hide (fun q hq => hall q (by omega))
    have lw2 : w.heap.size < wr.heap.size := by omega
    have HN2 := hide ((unhide HNd).below hb)
    have HS2 := hide ((unhide HS1).below hb rfl)
    have HB2 := hide ((unhide HB1).trans (hb.mono (by omega)))
    have HOW := hide ho
    have HBR := hide hb
    subst hke
    clear hb hall hkn y1 y2 ho
    obtain ⟨w2, rfl⟩ : ∃ u, u = wr := ⟨wr, rfl⟩
    go_wp2
    go_loopw [58] (fun i wr => ∃ (k : Nat), k ≤ s.ns ∧ i = .int .i64 k ∧ Below w2.heap.size w2 wr ∧ ∀ q, q < k → okS s (s.S q)) (fun i _ => s.ns - (intOf i).toNat)
    case atStart => exact ⟨0, by omega, rfl, Below.refl _ _, fun q hq => by omega⟩
    case round =>
      obtain ⟨k, hk, rfl, hb, hall⟩ := hrel
      have hbz' := hb.size
      by_cases hkn : k < s.ns
      case pos =>
        obtain ⟨b, off, rfl, hbl, hcs⟩ := (unhide HS2).resolve_left (by omega)
        obtain ⟨e0, e1, e2, e3, e4⟩ := (hcs k hkn).keep (fun q => hb.cell (p := ⟨b, q, none⟩) hbl)
        have HB3 : Hid (∀ o, Below w.heap.size w (wr.alloc o)) := hide (fun o => ((unhide HB2).trans (hb.mono (by omega))).alloc (by omega) _)
        have HB4 : Hid (∀ o, Below w2.heap.size w2 (wr.alloc o)) := hide (fun o => hb.alloc (by omega) _)
        have HB0 : Hid (∀ o, Below w1.heap.size w1 (wr.alloc o)) := hide (fun o => ((unhide HBR).trans (hb.mono (by omega))).alloc (by omega) _)
        have HVD : Hid (∀ o, Nd (wr.alloc o) s (w.heap.size + 1 + 1) g B N M) := hide (fun o => (unhide HN2).below (unhide HB4 o))
        have HALL := hide hall
        clear hcs hb hall p1 p2
        go_wp2_with fail
        refine (siteHolds_any s (w.heap.size + 1 + 1) g cp B N M (s.S k) _ (unhide HK k hkn) (unhide HVD _) (unhide H1)).mono ?_
        rintro e w3 ⟨rfl, hb3⟩
        have HB5 := hide ((unhide HB3 _).trans (hb3.mono (unhide HB3 _).size))
        have HB6 := hide ((unhide HB4 _).trans (hb3.mono (unhide HB4 _).size))
        have HB7 := hide ((unhide HB0 _).trans (hb3.mono (unhide HB0 _).size))
        clear hb3 e0 e1 e2 e3 e4
        by_cases hO : okS s (s.S k)
        · rw [tells_yes hO]
          have HOK := hide hO
          clear hO
          go_wp2
          go_roundw
          case rel =>
            refine ⟨k + 1, by omega, by go_num, unhide HB6, fun q hq => ?_⟩
            by_cases e : q = k
            · subst e; exact unhide HOK
            · exact unhide HALL q (by omega)
          case measure => simp [intOf]; omega
        · rw [tells_no hO]
          have HO := hide (storeOk4 (D := D) (unhide H1) (unhide H2) (unhide H3) (fun h => hO (h k hkn)))
          clear hO
          have s0 := ((unhide HB7).cell (p := ⟨w.heap.size + 1, 0, none⟩) lr1).trans s0
          have s1 := ((unhide HB7).cell (p := ⟨w.heap.size + 1, 1, none⟩) lr1).trans s1
          have g0 := ((unhide HB7).frozen (p := ⟨w.heap.size + 1, 0, none⟩) lr1).trans g0
          have g1 := ((unhide HB7).frozen (p := ⟨w.heap.size + 1, 1, none⟩) lr1).trans g1
          go_wp2
          refine bodyPost_ret (v := .tuple #[.agg #[.slice none 0 0, .slice none 0 0], .int .i64 4]) (by simp [results, Tryz.results33, go_sem, s0, s1]) rfl ⟨.inl ⟨4, rfl, (unhide HO).symm, by decide⟩, ?_⟩
          repeat (refine Below.setCell ?_ (by show w.heap.size ≤ w.heap.size + 1; omega) _)
          exact unhide HB5
      have HO := hide (storeOk0 (D := D) (unhide H1) (unhide H2) (unhide H3) (fun q hq => hall q (by omega)))
      have HB5 := hide ((unhide HB2).trans (hb.mono (by omega)))
      have HB7 := hide ((unhide HBR).trans (hb.mono (by omega)))
      have HN3 := hide ((unhide HN2).below hb)
      have HO3 := hide (own_belowK (unhide HOW) hb)
      have hke : k = s.ns := by omega
      clear hb hall hkn p1 p2
      subst hke
      have s0 := ((unhide HB7).cell (p := ⟨w.heap.size + 1, 0, none⟩) lr1).trans s0
      have s1 := ((unhide HB7).cell (p := ⟨w.heap.size + 1, 1, none⟩) lr1).trans s1
      have g0 := ((unhide HB7).frozen (p := ⟨w.heap.size + 1, 0, none⟩) lr1).trans g0
      have g1 := ((unhide HB7).frozen (p := ⟨w.heap.size + 1, 1, none⟩) lr1).trans g1
      obtain ⟨ka, kc, rfl⟩ : ∃ a c, u6 = .slice a s.nt c := by
        obtain ⟨_, ⟨hv, h0⟩ | ⟨g', cap, cur, hv, _⟩⟩ := unhide HO3
        · exact ⟨none, 0, by rw [hv, h0]⟩
        · exact ⟨_, _, hv⟩
      go_wp2
      refine bodyPost_ret (v := .tuple #[.agg #[.slice (some ⟨g, 0, none⟩) s.nf cp, .slice ka s.nt kc], .int .i64 0]) (by simp [results, Tryz.results33, go_sem, s0, s1]) rfl ⟨.inr ⟨g, cp, B, N, M, _, w1.heap.size, rfl, unhide HO, ?_, by omega, ?_⟩, ?_⟩
      · refine Nd.rebase (b0 := w.heap.size + 1 + 1) ((unhide HN3).keepFrom (fun b hb _ => ?_) ?_) (by omega)
        · exact (Deep.blk_setCell_other _ _ _ _ (by show b ≠ w.heap.size + 1; omega)).trans (Deep.blk_setCell_other _ _ _ _ (by show b ≠ w.heap.size + 1; omega))
        · exact (Deep.blk_setCell_other _ _ _ _ (by exact hgne)).trans (Deep.blk_setCell_other _ _ _ _ (by exact hgne))
      · refine own_blockK (unhide HO3) (fun b hb _ => ?_)
        exact (Deep.blk_setCell_other _ _ _ _ (by show b ≠ w.heap.size + 1; omega)).trans (Deep.blk_setCell_other _ _ _ _ (by show b ≠ w.heap.size + 1; omega))
      · repeat (refine Below.setCell ?_ (by show w.heap.size ≤ w.heap.size + 1; omega) _)
        exact unhide HB5
end Go.Proofs.YtfceeijdmilieaaGreatDoor
