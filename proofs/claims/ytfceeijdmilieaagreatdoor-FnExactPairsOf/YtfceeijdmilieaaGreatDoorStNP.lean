/-
  StN.
-/
import Derived.Test.YtfceeijdmilieaaGreatDoorStLP
namespace Go.Proofs.YtfceeijdmilieaaGreatDoor
open Go.RowKit
set_option linter.unusedVariables false
attribute [local go_sem] run_store_float run_equalIn_float

/-- The judgements of the tables' dicts. -/
noncomputable def Dz (s : Sto) (i : Nat) : Int := dictOk (s.T i).d (hD (s.T i).d)
theorem specDz {s : Sto} (hs : SSmall s) (hw : SWf s) : ∀ i, i < s.nt → ∀ la lc ia ic xa xc, SpecD la lc ia ic xa xc (s.T i).d (Dz s i) :=
  fun i hi la lc ia ic xa xc W hA => specOk la lc ia ic xa xc (s.T i).d W hA (hs.dict hi) (hw i hi).2
theorem implDz {s : Sto} (hs : SSmall s) (hw : SWf s) : ∀ i, i < s.nt → ∀ la lc ia ic xa xc, ImplD Tabs la lc ia ic xa xc (s.T i).d (Dz s i) :=
  fun i hi la lc ia ic xa xc W hT hA => implOk la lc ia ic xa xc (s.T i).d W hT hA (hs.dict hi) (hw i hi).2
open Classical in
/-- The pairs of a table. -/
noncomputable def tnN (s : Sto) (t : Tb) : Nat := if t.shape = -1 then lvN t.d else nf s.F t.shape.toNat
open Classical in
noncomputable def tnF (s : Sto) (t : Tb) : Nat → Pr := if t.shape = -1 then lvF t.d else tabF s t.shape.toNat t
open Classical in
noncomputable def pN (s : Sto) (i : Int) : Nat := if storeOk s (Dz s) = 0 ∧ 0 ≤ i ∧ i < s.nt then tnN s (s.T i.toNat) else 0
noncomputable def pF (s : Sto) (i : Int) : Nat → Pr := tnF s (s.T i.toNat)
theorem pN_no {s : Sto} {i : Int} (h : ¬ (storeOk s (Dz s) = 0 ∧ 0 ≤ i ∧ i < s.nt)) : pN s i = 0 := if_neg h
theorem pN_yes {s : Sto} {i : Nat} (h : storeOk s (Dz s) = 0) (hi : i < s.nt) : pN s (i : Int) = tnN s (s.T i) := by
  unfold pN
  rw [if_pos ⟨h, by omega, by omega⟩]
  rfl
theorem nilOwn (w : World) (base : Nat) (f : Nat → Pr) (n : Nat) (h : n = 0) : POwn w base (.slice none 0 0) n f := by
  subst h
  exact World.ownsRow_nil _ _ _ _
/-- What a sound table holds. -/
theorem okT_cases {s : Sto} {i : Nat} (h : okT s (Dz s i) (s.T i)) : ((s.T i).shape = -1 ∧ dictOk (s.T i).d (hD (s.T i).d) = 0) ∨ ∃ j : Nat, (s.T i).shape = j ∧ j < s.nf ∧ (s.T i).nv = nf s.F j := by
  rcases h with h | h
  · exact .inl ⟨h.1, h.2.2⟩
  · refine .inr ⟨(s.T i).shape.toNat, by omega, by omega, ?_⟩
    have := h.2.2.1
    unfold nf
    omega

set_option maxRecDepth 100000 in
set_option maxHeartbeats 4000000 in
theorem l3pairs_none (c : Nat) (ta : Option Addr) (tc : Nat) (s : Sto) (A : Nat → Ad) (i : Nat) (w : World) (hc1 : w.cell? ⟨c, 1, none⟩ = some (.slice ta s.nt tc)) (hcl : c < w.heap.size) (hT : TAtA w ta s.nt s.T A) (hi : i < s.nt) (hnt : s.nt ≤ 1048576) (hsh : (s.T i).shape = -1) (hS : Small (s.T i).d) (h2 : D2 (s.T i).d) :
    Calls Tryz.prog 53 #[.pointer (some ⟨c, 0, none⟩), .int .i64 (i : Int)] w fun e w' => (∃ v, e = .returned v ∧ POwn w' w.heap.size v (lvN (s.T i).d) (lvF (s.T i).d)) ∧ Below w.heap.size w w' := by
  obtain ⟨b1, off1, rfl, hbl1, hcs⟩ := hT.resolve_left (by omega)
  obtain ⟨a0, a1, a2, a3, a4, a5, a6, a7⟩ := (hcs i hi).1
  have HP := hide (hcs i hi).2.2.log
  rw [hsh] at a0
  have HS := hide hS
  have H2 := hide h2
  have hb0 : ∀ o, Below w.heap.size w (w.alloc o) := fun o => (Below.refl _ _).alloc (Nat.le_refl _) _
  have HB := hide hb0
  clear hcs hT hS h2 hsh hb0
  go_enter Tryz.func53, Tryz.ntmps53
  go_wp2_with fail
  refine (l1pairs_any _ _ _ _ _ _ (s.T i).d _ ((unhide HP).below (unhide HB _) rfl) (unhide HS) (unhide H2)).mono ?_
  rintro e w1 ⟨⟨v, rfl, hv⟩, hb1⟩
  have HB1 := hide ((unhide HB _).trans (hb1.mono (unhide HB _).size))
  have HV := hide (own_mono hv (unhide HB _).size)
  clear hb1 hv
  go_wp2
  go_ret
  exact ⟨⟨v, rfl, unhide HV⟩, unhide HB1⟩

theorem l3pairs_any (c m fc : Nat) (ta : Option Addr) (tc : Nat) (s : Sto) (A : Nat → Ad) (i : Nat) (w : World) (hc0 : w.cell? ⟨c, 0, none⟩ = some (.slice (some ⟨m, 0, none⟩) s.nf fc)) (hc1 : w.cell? ⟨c, 1, none⟩ = some (.slice ta s.nt tc)) (hcl : c < w.heap.size) (hF : ShRow w m s.nf s.F) (hT : TAtA w ta s.nt s.T A) (hs : SSmall s) (h0 : storeOk s (Dz s) = 0) (hi : i < s.nt) :
    Calls Tryz.prog 53 #[.pointer (some ⟨c, 0, none⟩), .int .i64 (i : Int)] w fun e w' => (∃ v, e = .returned v ∧ POwn w' w.heap.size v (tnN s (s.T i)) (tnF s (s.T i))) ∧ Below w.heap.size w w' := by
  obtain ⟨h1, h2, h3, h4⟩ := storeOk_zero h0
  rcases okT_cases (h3 i hi) with ⟨hsh, hd⟩ | ⟨j, hsh, hj, hnv⟩
  · have h := l3pairs_none c ta tc s A i w hc1 hcl hT hi hs.nt hsh (hs.dict hi) (sound_of hd).d2
    unfold tnN tnF
    rw [if_pos hsh, if_pos hsh]
    exact h
  · have h := l3pairs_at c m fc ta tc s A i j w hc0 hc1 hcl hF hT h1 hi hs.nt hsh hj hnv
    unfold tnN tnF
    rw [if_neg (by omega), if_neg (by omega), hsh, Int.toNat_natCast]
    exact h

set_option maxRecDepth 100000 in
set_option maxHeartbeats 4000000 in
theorem specPairsOf (m fc : Nat) (ta : Option Addr) (tc : Nat) (sa : Option Addr) (sc : Nat) (s : Sto) (i : Int) (w : World) (hF : ShRow w m s.nf s.F) (hT : TAt w ta s.nt s.T) (hS : SiAt w sa s.ns s.S) (hs : SSmall s) (hk : ∀ i, i < s.ns → (s.S i).key.size ≤ maxLen) (hw : SWf s) :
    Calls Tryz.prog 16 #[StV (some ⟨m, 0, none⟩) fc ta tc sa sc s, .int .i64 i] w fun e w' => (∃ v, e = .returned v ∧ POwn w' w.heap.size v (pN s i) (pF s i)) ∧ Below w.heap.size w w' := by
  have hml := hF.lt
  have hnt := hs.nt
  obtain ⟨A, hA⟩ := hT.addr
  obtain ⟨W, hW⟩ : ∃ W, W = w.alloc (.cells #[.slice (some ⟨m, 0, none⟩) s.nf fc, .slice ta s.nt tc, .slice sa s.ns sc] 29) := ⟨_, rfl⟩
  have hbW : Below w.heap.size w W := by rw [hW]; exact (Below.refl _ _).alloc (Nat.le_refl _) _
  have lw : w.heap.size < W.heap.size := by rw [hW]; simp
  have x0 : W.cell? ⟨w.heap.size, 0, none⟩ = some (.slice (some ⟨m, 0, none⟩) s.nf fc) := by rw [hW]; simp [go_sem]
  have x1 : W.cell? ⟨w.heap.size, 1, none⟩ = some (.slice ta s.nt tc) := by rw [hW]; simp [go_sem]
  have x2 : W.cell? ⟨w.heap.size, 2, none⟩ = some (.slice sa s.ns sc) := by rw [hW]; simp [go_sem]
  have HF := hide (hF.below hbW hml)
  have HT := hide (hT.below hbW rfl)
  have HA := hide (hA.below hbW)
  have HSi := hide (hS.below hbW rfl)
  have HS := hide hs
  have HK := hide hk
  have HW := hide hw
  have HBW := hide hbW
  have lm : m < W.heap.size := by omega
  clear hF hT hA hS hs hk hw hbW
  go_enter Tryz.func16, Tryz.ntmps16
  go_wp2_with fail
  rw [← hW]
  clear hW
  refine (specStoreOk m fc ta tc sa sc s (Dz s) _ (unhide HF) (unhide HT) (unhide HSi) (unhide HS) (unhide HK) (specDz (unhide HS) (unhide HW))).mono ?_
  rintro e w1 ⟨rfl, hb1⟩
  have y0 := (hb1.cell (p := ⟨w.heap.size, 0, none⟩) lw).trans x0
  have y1 := (hb1.cell (p := ⟨w.heap.size, 1, none⟩) lw).trans x1
  have lw1 : w.heap.size < w1.heap.size := Nat.lt_of_lt_of_le lw hb1.size
  have HF1 := hide ((unhide HF).below hb1 lm)
  have HA1 := hide ((unhide HA).below hb1)
  have HB1 := hide ((unhide HBW).trans (hb1.mono (unhide HBW).size))
  clear hb1 x0 x1 x2 HF HT HA HSi
  by_cases h0 : storeOk s (Dz s) = 0
  case neg =>
    have hne : (storeOk s (Dz s) != 0) = true := by simpa using h0
    have HO := hide (pN_no (s := s) (i := i) (fun h => h0 h.1))
    clear h0
    go_wp2
    go_ret
    exact ⟨⟨_, rfl, nilOwn _ _ _ _ (unhide HO)⟩, unhide HB1⟩
  rw [h0]
  have H0 := hide h0
  by_cases h1 : i < 0
  · have HO := hide (pN_no (s := s) (i := i) (fun h => by omega))
    clear h0
    go_wp2
    go_ret
    exact ⟨⟨_, rfl, nilOwn _ _ _ _ (unhide HO)⟩, unhide HB1⟩
  by_cases h2 : (s.nt : Int) ≤ i
  · have HO := hide (pN_no (s := s) (i := i) (fun h => by omega))
    clear h0
    go_wp2
    go_ret
    exact ⟨⟨_, rfl, nilOwn _ _ _ _ (unhide HO)⟩, unhide HB1⟩
  obtain ⟨k, rfl⟩ : ∃ k : Nat, i = k := ⟨i.toNat, by omega⟩
  have hkn : k < s.nt := by omega
  have HE := hide (pN_yes h0 hkn)
  have HE2 : Hid (pF s (k : Int) = tnF s (s.T k)) := hide rfl
  clear h0 h1 h2
  go_wp2_with fail
  refine (l3pairs_any w.heap.size m fc ta tc s A k _ y0 y1 lw1 (unhide HF1) (unhide HA1) (unhide HS) (unhide H0) hkn).mono ?_
  rintro e w2 ⟨⟨v, rfl, hv⟩, hb2⟩
  have HB2 := hide ((unhide HB1).trans (hb2.mono (unhide HB1).size))
  have HV := hide (own_mono hv (unhide HB1).size)
  clear hb2 hv
  go_wp2
  go_ret
  exact ⟨⟨v, rfl, by rw [unhide HE, unhide HE2]; exact unhide HV⟩, unhide HB2⟩

theorem ta1 (v : Value) (W : World) : Sem.run Tryz.prog (Instr.typeAssert (.iface 199 v) 124 199 true) W = .ok (.tuple #[v, .bool true]) W := by
  kernel_rfl
theorem ta2 (v : Value) (W : World) : Sem.run Tryz.prog (Instr.typeAssert (.iface 202 v) 124 202 true) W = .ok (.tuple #[v, .bool true]) W := by
  kernel_rfl
theorem ta3 (v : Value) (W : World) : Sem.run Tryz.prog (Instr.typeAssert (.iface 202 v) 124 199 true) W = .ok (.tuple #[.agg #[.slice none 0 0, .slice none 0 0, .slice none 0 0, .slice none 0 0, .int .i64 0, .int .i64 0, .int .i64 0, .pointer none], .bool false]) W := by
  kernel_rfl

set_option maxRecDepth 100000 in
set_option maxHeartbeats 4000000 in
theorem pairsOf_none (A : Ad) (t : Tb) (w : World) (hT : Tabs w) (hA : DAt w A.la A.ia A.xa t.d) (hS : Small t.d) (hW : WfD t.d) :
    Calls Tryz.prog 57 #[.iface 202 (HdA A t)] w fun e w' => (∃ v, e = .returned v ∧ POwn w' w.heap.size v (prsN t.d) (lvF t.d)) ∧ Below w.heap.size w w' := by
  have hb0 : ∀ o, Below w.heap.size w (w.alloc o) := fun o => (Below.refl _ _).alloc (Nat.le_refl _) _
  have HB := hide hb0
  have HT : Hid (∀ o, Tabs (w.alloc o)) := hide (fun o => lastsT _ _ hT (hb0 o))
  have HA := hide hA
  have HS := hide hS
  have HW := hide hW
  clear hb0 hT hA hS hW
  have ht3 := ta3 (HdA A t)
  have ht2 := ta2 (HdA A t)
  go_enter Tryz.func57, Tryz.ntmps57
  go_wp2_with fail
  refine (implPairs A.la A.lc A.ia A.ic A.xa A.xc t.d _ (unhide HT _) ((unhide HA).below (unhide HB _)) (unhide HS) (unhide HW)).mono ?_
  rintro e w1 ⟨⟨v, rfl, hv⟩, hb1⟩
  have HB1 := hide ((unhide HB _).trans (hb1.mono (unhide HB _).size))
  have HV := hide (own_mono hv (unhide HB _).size)
  clear hb1 hv
  go_wp2
  go_ret
  exact ⟨⟨v, rfl, unhide HV⟩, unhide HB1⟩

set_option maxRecDepth 100000 in
set_option maxHeartbeats 4000000 in
theorem pairsOf_at (s : Sto) (b0 g : Nat) (B N : Nat → Nat) (M : Nat → Option Nat) (A : Ad) (t : Tb) (j : Nat) (w : World) (hN : Nd w s b0 g B N M) (h0 : forestOk s.nf s.F = 0) (hj : j < s.nf) (hV : VAt w A.va t.nv t.V) (hnv : t.nv = nf s.F j) :
    Calls Tryz.prog 57 #[.iface 199 (ShdA (B j) A t)] w fun e w' => (∃ v, e = .returned v ∧ POwn w' w.heap.size v (nf s.F j) (tabF s j t)) ∧ Below w.heap.size w w' := by
  have hb0 : ∀ o, Below w.heap.size w (w.alloc o) := fun o => (Below.refl _ _).alloc (Nat.le_refl _) _
  have HB := hide hb0
  have HN := hide hN
  have HV := hide hV
  have H0 := hide h0
  have HNV := hide hnv
  clear hb0 hN hV h0 hnv
  have ht1 := ta1 (ShdA (B j) A t)
  go_enter Tryz.func57, Tryz.ntmps57
  go_wp2_with fail
  refine (shapedPairs_any s b0 g B N M A t j _ ((unhide HN).below (unhide HB _)) (unhide H0) hj ((unhide HV).below (unhide HB _) rfl) (unhide HNV)).mono ?_
  rintro e w1 ⟨⟨v, rfl, hv⟩, hb1⟩
  have HB1 := hide ((unhide HB _).trans (hb1.mono (unhide HB _).size))
  have HV := hide (own_mono hv (unhide HB _).size)
  clear hb1 hv
  go_wp2
  go_ret
  exact ⟨⟨v, rfl, unhide HV⟩, unhide HB1⟩

theorem pairsOf_any (s : Sto) (b0 g : Nat) (B N : Nat → Nat) (M : Nat → Option Nat) (A : Ad) (i : Nat) (w : World) (hT : Tabs w) (hN : Nd w s b0 g B N M) (hV : VAt w A.va (s.T i).nv (s.T i).V) (hA : DAt w A.la A.ia A.xa (s.T i).d) (hs : SSmall s) (hw : SWf s) (h0 : storeOk s (Dz s) = 0) (hi : i < s.nt) :
    Calls Tryz.prog 57 #[kindV B A (s.T i)] w fun e w' => (∃ v, e = .returned v ∧ POwn w' w.heap.size v (tnN s (s.T i)) (tnF s (s.T i))) ∧ Below w.heap.size w w' := by
  obtain ⟨h1, h2, h3, h4⟩ := storeOk_zero h0
  rcases okT_cases (h3 i hi) with ⟨hsh, hd⟩ | ⟨j, hsh, hj, hnv⟩
  · have h := pairsOf_none A (s.T i) w hT hA (hs.dict hi) (hw i hi).2
    unfold tnN tnF kindV
    rw [if_pos hsh, if_pos hsh, if_pos hsh]
    unfold prsN at h
    rw [if_pos hd] at h
    exact h
  · have h := pairsOf_at s b0 g B N M A (s.T i) j w hN h1 hj hV hnv
    unfold tnN tnF kindV
    rw [if_neg (by omega), if_neg (by omega), if_neg (by omega), hsh, Int.toNat_natCast]
    exact h

set_option maxRecDepth 100000 in
set_option maxHeartbeats 4000000 in
theorem implPairsOf (m fc : Nat) (ta : Option Addr) (tc : Nat) (sa : Option Addr) (sc : Nat) (s : Sto) (i : Int) (w : World) (hTb : Tabs w) (hF : ShRow w m s.nf s.F) (hT : TAt w ta s.nt s.T) (hS : SiAt w sa s.ns s.S) (hs : SSmall s) (hk : ∀ i, i < s.ns → (s.S i).key.size ≤ maxLen) (hw : SWf s) :
    Calls Tryz.prog 18 #[StV (some ⟨m, 0, none⟩) fc ta tc sa sc s, .int .i64 i] w fun e w' => (∃ v, e = .returned v ∧ POwn w' w.heap.size v (pN s i) (pF s i)) ∧ Below w.heap.size w w' := by
  have hml := hF.lt
  have hnt := hs.nt
  obtain ⟨A, hA⟩ := hT.addr
  obtain ⟨W, hW⟩ : ∃ W, W = w.alloc (.cells #[.slice (some ⟨m, 0, none⟩) s.nf fc, .slice ta s.nt tc, .slice sa s.ns sc] 29) := ⟨_, rfl⟩
  have hbW : Below w.heap.size w W := by rw [hW]; exact (Below.refl _ _).alloc (Nat.le_refl _) _
  have HF := hide (hF.below hbW hml)
  have HA := hide (hA.below hbW)
  have HSi := hide (hS.below hbW rfl)
  have HTW := hide (lastsT _ _ hTb hbW)
  have HS := hide hs
  have HK := hide hk
  have HW := hide hw
  have HBW := hide hbW
  clear hF hT hA hS hs hk hw hbW hTb
  go_enter Tryz.func18, Tryz.ntmps18
  go_wp2_with fail
  rw [← hW]
  clear hW
  refine (judgeStore_any Tabs lastsT m fc ta tc sa sc s (Dz s) A _ (unhide HTW) (unhide HF) (unhide HA) (unhide HSi) (unhide HS) (unhide HK) (implDz (unhide HS) (unhide HW))).mono ?_
  rintro e w1 ⟨hj, hb1⟩
  have HA1 := hide ((unhide HA).below hb1)
  have HT1 := hide (lastsT _ _ (unhide HTW) hb1)
  have HB1 := hide ((unhide HBW).trans (hb1.mono (unhide HBW).size))
  have HBs : Hid (∀ o, Below w.heap.size w (w1.alloc o)) := hide (fun o => (unhide HB1).alloc (unhide HB1).size _)
  clear hb1 HF HA HSi
  rcases hj with ⟨r, rfl, hr, hr0⟩ | ⟨g, cp, B, N, M, kv, b1, rfl, h0, hN, hb1, ho⟩
  · have hne : (r != 0) = true := by simpa using hr0
    have HO := hide (pN_no (s := s) (i := i) (fun h => hr0 (hr.trans h.1)))
    clear hr hr0
    go_wp2
    go_ret
    exact ⟨⟨_, rfl, nilOwn _ _ _ _ (unhide HO)⟩, unhide HBs _⟩
  obtain ⟨ka, kc, rfl⟩ : ∃ a c, kv = .slice a s.nt c := by
    obtain ⟨_, ⟨hv, h0⟩ | ⟨g', cap, cur, hv, _⟩⟩ := ho
    · exact ⟨none, 0, by rw [hv, h0]⟩
    · exact ⟨_, _, hv⟩
  have H0 := hide h0
  have HN := hide hN
  have HO := hide ho
  clear hN ho h0
  by_cases h1 : i < 0
  · have HO := hide (pN_no (s := s) (i := i) (fun h => by omega))
    go_wp2
    go_ret
    exact ⟨⟨_, rfl, nilOwn _ _ _ _ (unhide HO)⟩, unhide HBs _⟩
  by_cases h2 : (s.nt : Int) ≤ i
  · have HO := hide (pN_no (s := s) (i := i) (fun h => by omega))
    go_wp2
    go_ret
    exact ⟨⟨_, rfl, nilOwn _ _ _ _ (unhide HO)⟩, unhide HBs _⟩
  obtain ⟨k, rfl⟩ : ∃ k : Nat, i = k := ⟨i.toNat, by omega⟩
  have hkn : k < s.nt := by omega
  have HE := hide (pN_yes (unhide H0) hkn)
  have HE2 : Hid (pF s (k : Int) = tnF s (s.T k)) := hide rfl
  obtain ⟨kb, ck, hcl⟩ : ∃ kb, ka = some ⟨kb, 0, none⟩ ∧ kb < w1.heap.size ∧ w1.cell? ⟨kb, k, none⟩ = some (kindV B (A k) (s.T k)) := by
    have hc := (unhide HO)
    obtain ⟨_, ⟨hv, h0⟩ | ⟨g', cap, cur, hv, hbs, hblk, q1, q2, q3, q4⟩⟩ := hc
    · omega
    · cases hv
      refine ⟨g', rfl, (Array.getElem?_eq_some_iff.1 hblk).1, ?_⟩
      have := (unhide HO).cellAt k (by omega)
      exact this.trans (kL_get hkn)
  obtain ⟨hkl, hkc⟩ := hcl
  subst ck
  have hkc' : ∀ o, (w1.alloc o).cell? ⟨kb, k, none⟩ = some (kindV B (A k) (s.T k)) := fun o => (World.cell?_alloc_lt _ _ _ (by exact hkl)).trans hkc
  obtain ⟨kv, hkv⟩ : ∃ x, x = kindV B (A k) (s.T k) := ⟨_, rfl⟩
  rw [← hkv] at hkc
  have hk1 : kv.oneCell' = true := by rw [hkv]; exact kindV_one _ _ _
  clear h1 h2 hkc'
  have HPC : Hid (∀ o, Calls Tryz.prog 57 #[kv] (w1.alloc o) fun e w' => (∃ v, e = .returned v ∧ POwn w' (w1.alloc o).heap.size v (tnN s (s.T k)) (tnF s (s.T k))) ∧ Below (w1.alloc o).heap.size (w1.alloc o) w') := hide (fun o => by
    have hbo : Below w1.heap.size w1 (w1.alloc o) := (Below.refl _ _).alloc (Nat.le_refl _) _
    rw [hkv]
    exact pairsOf_any s W.heap.size g B N M (A k) k _ (lastsT _ _ (unhide HT1) hbo) ((unhide HN).below hbo) (((unhide HA1).below hbo).one hkn).1 (((unhide HA1).below hbo).one hkn).2 (unhide HS) (unhide HW) (unhide H0) hkn)
  clear hkv
  go_wp2_with fail
  refine (unhide HPC _).mono ?_
  rintro e w2 ⟨⟨v, rfl, hv⟩, hb2⟩
  have HB2 := hide ((unhide HBs _).trans (hb2.mono (unhide HBs _).size))
  have HV := hide (own_mono hv (unhide HBs _).size)
  clear hb2 hv hkc
  go_wp2
  go_ret
  exact ⟨⟨v, rfl, by rw [unhide HE, unhide HE2]; exact unhide HV⟩, unhide HB2⟩
end Go.Proofs.YtfceeijdmilieaaGreatDoor
