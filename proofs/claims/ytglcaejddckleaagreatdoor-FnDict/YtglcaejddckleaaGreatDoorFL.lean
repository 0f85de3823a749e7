import Derived.Test.YtglcaejddckleaaGreatDoorFK
set_option linter.unusedVariables false
namespace Go.Proofs.YtglcaejddckleaaGreatDoor
section
open Go.RowKit Go.Shelf
attribute [local go_sem] run_store_float run_equalIn_float
set_option maxRecDepth 100000 in
set_option maxHeartbeats 16000000 in
theorem law_put (a a' : Option Addr) (len cap len' cap' : Nat) (w : World) (hT : Tabs w) (hcode : CodeAt w w.heap.size a len) (hcode' : CodeAt w w.heap.size a' len') (hle : (len : Int) ≤ 1048576) (hle' : (len' : Int) ≤ 1048576) (z1 z2 : Int)
  (hw1 : (∀ w' : World, (∀ q, q < w.heap.size → w'.heap[q]? = w.heap[q]?) → Calls Tryz.prog 13 #[.slice a' len' cap', .int .i64 1] w' fun e w'' => e = .returned (.int .i64 z1) ∧ w'' = w')) (hw2 : (∀ w' : World, (∀ q, q < w.heap.size → w'.heap[q]? = w.heap[q]?) → Calls Tryz.prog 13 #[.slice a' len' cap', .int .i64 2] w' fun e w'' => e = .returned (.int .i64 z2) ∧ w'' = w')) :
  Calls Tryz.prog 3 #[.slice a len cap, .slice a' len' cap'] w fun e w' => e = .returned (.bool true) ∧ Below w.heap.size w w' := by
 have HCode := uy hcode
 have HCode' := uy hcode'
 have HW1 := uy hw1
 have HW2 := uy hw2
 have HT := uy hT
 clear hcode hcode' hT hw1 hw2
 go_enter Tryz.func3, Tryz.ntmps3
 go_wp2_with fail
 refine (dicts_any a len cap _ (uh HCode)).mono ?_
 rintro e w1 ⟨⟨la, lc, ia, ic, xa, xc, d, rfl, hA, hI, hW, hm, htn, hnz⟩, hb1⟩
 have hS : Small d := hI.small (by omega)
 have HI := uy hI
 have HWf := uy hW
 have HS := uy hS
 have HNZ := uy hnz
 obtain ⟨D, hD⟩ : ∃ D, D = w1.heap.size := ⟨_, rfl⟩
 obtain ⟨W1, hW1⟩ : ∃ W1, W1 = w1.alloc (.cells #[.slice la d.n lc, .slice ia d.m ic, .slice xa d.x xc, .int .i64 d.used, .int .i64 d.live, .int .i64 d.turns] 26) := ⟨_, rfl⟩
 have hba : Below w1.heap.size w1 W1 := by rw [hW1]; exact (Below.refl _ _).alloc (Nat.le_refl _) _
 have HB1 := uy (hb1.trans (hba.mono hb1.size))
 have HD1 : Hid (DB W1 D la lc ia ic xa xc d) := uy ⟨by rw [hW1, hD]; simp, by rw [hW1, hD]; simp [go_sem], by rw [hW1, hD]; simp [go_sem], by rw [hW1, hD]; simp [go_sem], by rw [hW1, hD]; simp [go_sem], by rw [hW1, hD]; simp [go_sem], by rw [hW1, hD]; simp [go_sem], hA.below hba⟩
 clear hI hW hS hnz hA hb1 hba
 go_wp2_with fail
 rw [← hW1, ← hD]
 clear hW1 hD
 refine (drawKey_any a' len' cap' _ ((uh HCode').up (uh HB1) (Nat.le_refl _) (uh HB1).size)).mono ?_
 rintro e w2 ⟨⟨kk, kn, kf, ks, kr, rfl, hsz, hf⟩, hb2⟩
 have HD2 := uy ((uh HD1).below hb2)
 have HB2 := uy ((uh HB1).trans (hb2.mono (uh HB1).size))
 obtain ⟨ky, hky0⟩ : ∃ ky : Vl, ky = ⟨kk, kn, kf, ks, kr⟩ := ⟨_, rfl⟩
 have hky1 : kk = ky.kind := by rw [hky0]
 have hky2 : kn = ky.num := by rw [hky0]
 have hky3 : kf = ky.flt := by rw [hky0]
 have hky4 : ks = ky.str := by rw [hky0]
 have hky5 : kr = ky.ref := by rw [hky0]
 have hwk : Wf ky := ⟨by rw [← hky3]; exact hf.1, Nat.le_trans (by rw [← hky4]; exact hsz) (by decide)⟩
 have hnk : Nz ky := by show ky.flt ≠ _; rw [← hky3]; exact hf.2
 rw [hky1, hky2, hky3, hky4, hky5]
 obtain ⟨c, kv, hkv, hky⟩ := keyedK ky hwk
 have HNK : Hid (Nz kv) := uy (keyV_nz hkv hnk)
 have HKV := uy hkv
 have HKY := uy hky
 clear hb2 HD1 HB1 hky0 hky1 hky2 hky3 hky4 hky5 hsz hf hwk hnk hkv hky
 obtain ⟨Kb, hKb⟩ : ∃ Kb, Kb = w2.heap.size := ⟨_, rfl⟩
 go_wp2_with fail
 refine (uh HW1 _ (fun q hq => ?_)).mono ?_
 ·have hb := (((uh HB2).alloc (o := .cells #[.int .i64 ky.kind, .int .i64 ky.num, .float .f64 ky.flt, .string ky.str, .int .i64 ky.ref] 30) (uh HB2).size).alloc (o := .cells #[.int .i64 0, .int .i64 0, .float .f64 0, .string ⟨#[]⟩, .int .i64 0] 30) (by have := (uh HB2).size; simp; omega)).block q hq
  exact hb
 rintro e w3 ⟨rfl, rfl⟩
 refine Or.elim (Classical.em (0 < Int.tmod z1 3)) (fun hz => ?zY) (fun hz => ?zN)
 case' zY =>
  have hzd : decide (0 < Int.tmod z1 3) = true := by simpa using hz
  go_wp2_with fail
  refine (uh HW2 _ (fun q hq => ?_)).mono ?_
  ·have hb := (((uh HB2).alloc (o := .cells #[.int .i64 ky.kind, .int .i64 ky.num, .float .f64 ky.flt, .string ky.str, .int .i64 ky.ref] 30) (uh HB2).size).alloc (o := .cells #[.int .i64 0, .int .i64 0, .float .f64 0, .string ⟨#[]⟩, .int .i64 0] 30) (by have := (uh HB2).size; simp; omega)).block q hq
   exact hb
  rintro e w3 ⟨rfl, rfl⟩
  go_wp2_with fail
  refine (ikey_any ky.kind ky.num ky.flt ky.str ky.ref _).mono ?_
  rintro e w5 ⟨rfl, hb5⟩
  obtain ⟨v, hv⟩ : ∃ v : Vl, v = ⟨2, z2, 0, ⟨#[]⟩, 0⟩ := ⟨_, rfl⟩
  have hz2 : w2.heap.size + 1 < w5.heap.size := Nat.lt_of_lt_of_le (by simp) hb5.size
  have HK5 : Hid (VB w5 Kb ky) := uy (VB.below ⟨by rw [hKb]; simp <;> omega, by rw [hKb]; simp [go_sem], by rw [hKb]; simp [go_sem], by rw [hKb]; simp [go_sem], by rw [hKb]; simp [go_sem], by rw [hKb]; simp [go_sem]⟩ hb5)
  have HV5 : Hid (VB w5 (Kb + 1) v) := uy (VB.below ⟨by rw [hKb]; simp, by rw [hKb, hv]; simp [go_sem], by rw [hKb, hv]; simp [go_sem], by rw [hKb, hv]; simp [go_sem], by rw [hKb, hv]; simp [go_sem], by rw [hKb, hv]; simp [go_sem]⟩ hb5)
  have hbx : Below w2.heap.size w2 w5 := Below.trans (((Below.refl w2.heap.size w2).alloc (Nat.le_refl _) _).alloc (by simp) _) (hb5.mono (by simp; omega))
  have HD5 := uy ((uh HD2).below hbx)
  have HB5 := uy ((uh HB2).trans (hbx.mono (uh HB2).size))
  have hvk : v.kind ≠ 0 := by rw [hv]; show (2 : Int) ≠ 0; decide
  have hvo : v.ok = true := by rw [hv]; exact ok_int _
  have hvw : Wf v := by rw [hv]; exact wf_int _
  have hvd : v.kind = 0 → v = default := fun h => absurd h hvk
  have HVO := uy hvo
  have HVW := uy hvw
  have HVD := uy hvd
  clear hb5 hbx HD2 HB2 hvo hvw hvd hv hvk hzd hz
 case' zN =>
  have hzd : decide (0 < Int.tmod z1 3) = false := by simpa using hz
  go_wp2_with fail
  refine (ikey_any ky.kind ky.num ky.flt ky.str ky.ref _).mono ?_
  rintro e w5 ⟨rfl, hb5⟩
  obtain ⟨v, hv⟩ : ∃ v : Vl, v = ⟨0, 0, 0, ⟨#[]⟩, 0⟩ := ⟨_, rfl⟩
  have hz2 : w2.heap.size + 1 < w5.heap.size := Nat.lt_of_lt_of_le (by simp) hb5.size
  have HK5 : Hid (VB w5 Kb ky) := uy (VB.below ⟨by rw [hKb]; simp <;> omega, by rw [hKb]; simp [go_sem], by rw [hKb]; simp [go_sem], by rw [hKb]; simp [go_sem], by rw [hKb]; simp [go_sem], by rw [hKb]; simp [go_sem]⟩ hb5)
  have HV5 : Hid (VB w5 (Kb + 1) v) := uy (VB.below ⟨by rw [hKb]; simp, by rw [hKb, hv]; simp [go_sem], by rw [hKb, hv]; simp [go_sem], by rw [hKb, hv]; simp [go_sem], by rw [hKb, hv]; simp [go_sem], by rw [hKb, hv]; simp [go_sem]⟩ hb5)
  have hbx : Below w2.heap.size w2 w5 := Below.trans (((Below.refl w2.heap.size w2).alloc (Nat.le_refl _) _).alloc (by simp) _) (hb5.mono (by simp; omega))
  have HD5 := uy ((uh HD2).below hbx)
  have HB5 := uy ((uh HB2).trans (hbx.mono (uh HB2).size))
  have hvk : v.kind = 0 := by rw [hv]
  have hvo : v.ok = true := by rw [hv]; exact ok_nil
  have hvw : Wf v := by rw [hv]; exact ⟨by decide, by decide⟩
  have hvd : v.kind = 0 → v = default := fun _ => by rw [hv]; rfl
  have HVO := uy hvo
  have HVW := uy hvw
  have HVD := uy hvd
  clear hb5 hbx HD2 HB2 hvo hvw hvd hv hvk hzd hz
 all_goals
  rw [← hKb]
  rw [← hKb] at hz2
  clear hKb
  rw [uh HKV]
  obtain ⟨V, hV⟩ : ∃ V, V = Kb + 1 := ⟨_, rfl⟩
  rw [← hV] at HV5 hz2 ⊢
  clear hV
  obtain ⟨Q, hQ⟩ : ∃ Q, Q = w5.heap.size := ⟨_, rfl⟩
  obtain ⟨Y, hY⟩ : ∃ Y, Y = w5.alloc (.cells #[.int .i64 c, .int .i64 kv.kind, .int .i64 kv.num, .float .f64 kv.flt, .string kv.str, .int .i64 kv.ref] 34) := ⟨_, rfl⟩
  have hbY : Below w5.heap.size w5 Y := by rw [hY]; exact (Below.refl _ _).alloc (Nat.le_refl _) _
  have HDY := uy ((uh HD5).below hbY)
  have HKY5 := uy ((uh HK5).below hbY)
  have HVY := uy ((uh HV5).below hbY)
  have HQY : Hid (KB Y Q c kv) := uy ⟨by rw [hY, hQ]; simp, by rw [hY, hQ]; simp [go_sem], by rw [hY, hQ]; simp [go_sem], by rw [hY, hQ]; simp [go_sem], by rw [hY, hQ]; simp [go_sem], by rw [hY, hQ]; simp [go_sem], by rw [hY, hQ]; simp [go_sem]⟩
  have HBY := uy ((uh HB5).trans (hbY.mono (uh HB5).size))
  have HTY := uy ((uh HT).below (uh HBY) (uh HT).sz)
  have d0 := (uh HD5).c0
  have d1 := (uh HD5).c1
  have d2 := (uh HD5).c2
  have d3 := (uh HD5).c3
  have d4 := (uh HD5).c4
  have d5 := (uh HD5).c5
  have ld := (uh HD5).lt
  have k0 := (uh HK5).c0
  have k1 := (uh HK5).c1
  have k2 := (uh HK5).c2
  have k3 := (uh HK5).c3
  have k4 := (uh HK5).c4
  have lk := (uh HK5).lt
  have v0 := (uh HV5).c0
  have v1 := (uh HV5).c1
  have v2 := (uh HV5).c2
  have v3 := (uh HV5).c3
  have v4 := (uh HV5).c4
  have lv := (uh HV5).lt
  clear hbY HD5 HK5 HV5 HB5
  go_wp2_with fail
  rw [← hY, ← hQ]
  clear hY hQ
  refine (implPut la lc ia ic xa xc d ky v c kv _ (uh HTY) (uh HDY).at' (uh HS) (uh HWf) (by omega) (uh HKV) (uh HKY)).mono ?_
  rintro e' w6 ⟨⟨s0, s1, s2, rfl, hDV⟩, hb6⟩
  obtain ⟨ea, ec, ja, jc, ya, yc, rfl, rfl, rfl, hEA⟩ := hDV.at
  obtain ⟨e, he⟩ : ∃ e, putO d c kv v = e := ⟨_, rfl⟩
  rw [he] at hEA ⊢
  obtain ⟨E, hE⟩ : ∃ E, E = w6.heap.size := ⟨_, rfl⟩
  obtain ⟨Z, hZ⟩ : ∃ Z, Z = w6.alloc (.cells #[.slice ea e.n ec, .slice ja e.m jc, .slice ya e.x yc, .int .i64 e.used, .int .i64 e.live, .int .i64 e.turns] 26) := ⟨_, rfl⟩
  have hbZ : Below w6.heap.size w6 Z := by rw [hZ]; exact (Below.refl _ _).alloc (Nat.le_refl _) _
  have hYZ := hb6.trans (hbZ.mono hb6.size)
  have HX : Hid (BX Z D Kb V Q E la lc ia ic xa xc d ea ec ja jc ya yc e ky v kv c) := uy ⟨(uh HDY).below hYZ, (uh HKY5).below hYZ, (uh HVY).below hYZ, (uh HQY).below hYZ, ⟨by rw [hZ, hE]; simp, by rw [hZ, hE]; simp [go_sem], by rw [hZ, hE]; simp [go_sem], by rw [hZ, hE]; simp [go_sem], by rw [hZ, hE]; simp [go_sem], by rw [hZ, hE]; simp [go_sem], by rw [hZ, hE]; simp [go_sem], hEA.below hbZ⟩, (uh HTY).below hYZ (uh HTY).sz⟩
  have HB := uy ((uh HBY).trans (hYZ.mono (uh HBY).size))
  have q0 := (hb6.cell (p := ⟨Q, 0, none⟩) (uh HQY).lt).trans (uh HQY).c0
  have lq : Q < w6.heap.size := Nat.lt_of_lt_of_le (uh HQY).lt hb6.size
  have HE := uy he
  clear hDV hEA hb6 hbZ hYZ HDY HKY5 HVY HQY HBY HTY he hz2
  clear d0 d1 d2 d3 d4 d5 ld k0 k1 k2 k3 k4 lk v0 v1 v2 v3 v4 lv
  by_cases hc : c = 0
  case neg =>
   have hcd : (c != 0) = true := by simp [hc]
   have hen : e = noD := by rw [← uh HE]; exact if_neg (fun h => hc h.2.1)
   have HSK : Hid (∀ w : World, Calls Tryz.prog 17 #[VV ky] w fun e w' => e = .returned (KV c kv.kind kv.num kv.flt kv.str kv.ref) ∧ Below w.heap.size w w') := uy fun w => (skey_any ky.kind ky.num ky.flt ky.str ky.ref w).mono (fun e w' h => ⟨h.1.trans (congrArg Ending.returned (uh HKV)), h.2⟩)
   subst hen
   have fcd := field_code c kv.kind kv.num kv.flt kv.str kv.ref
   have e0 := (uh HX).e.c0
   have e1 := (uh HX).e.c1
   have e2 := (uh HX).e.c2
   have e3 := (uh HX).e.c3
   have e4 := (uh HX).e.c4
   have e5 := (uh HX).e.c5
   have le := (uh HX).e.lt
   have k0 := (uh HX).k.c0
   have k1 := (uh HX).k.c1
   have k2 := (uh HX).k.c2
   have k3 := (uh HX).k.c3
   have k4 := (uh HX).k.c4
   have lk := (uh HX).k.lt
   have q1 := (uh HX).q.c0
   have lq1 := (uh HX).q.lt
   go_wp2_with fail
   rw [← hZ, ← hE]
   clear hZ hE
   refine wp_region_quiet (C := fun w' => Below Z.heap.size Z w') (by kernel_rfl) (by kernel_rfl) ((Below.refl _ _).drew) ?_
   show wpQuiet _ _ _ _ [_, _, _, _, _, _, _, _, _, _, _, _] _
   refine wpQuiet_step (fun K hK => ?_)
   go_simp
   apply Exists.intro
   refine And.intro (fun w' hw' => ?_) (hK _ ?_)
   ·obtain ⟨hc', hf'⟩ := bcell hw'
    go_simp
    first | rfl | exact ⟨rfl, rfl⟩ | exact ⟨rfl⟩
   clear hK K
   refine wpQuiet_step (fun K hK => ?_)
   go_simp
   refine ⟨_, fun w' hw' => rfl, hK _ ?_⟩
   clear hK K
   refine wpQuiet_step (fun K hK => ?_)
   go_simp
   apply Exists.intro
   refine And.intro (fun w' hw' => ?_) (hK _ ?_)
   ·refine (wDict_same ea none ja none ya none ec 0 jc 0 yc 0 noD _ ((uh HX).e.at'.below hw') (noD_at _) ⟨by decide, by decide, by decide⟩).mono ?_
    rintro e w'' ⟨rfl, hb⟩
    exact ⟨rfl, hw'.trans (hb.mono hw'.size)⟩
   clear hK K
   refine wpQuiet_step (fun K hK => ?_)
   go_simp
   refine ⟨_, fun w' hw' => rfl, hK _ ?_⟩
   clear hK K
   refine wpQuiet_step (fun K hK => ?_)
   go_simp
   apply Exists.intro
   refine And.intro (fun w' hw' => ?_) (hK _ ?_)
   ·obtain ⟨hc', hf'⟩ := bcell hw'
    go_simp
    first | rfl | exact ⟨rfl, rfl⟩ | exact ⟨rfl⟩
   clear hK K
   refine wpQuiet_step (fun K hK => ?_)
   go_simp
   apply Exists.intro
   refine And.intro (fun w' hw' => ?_) (hK _ ?_)
   ·refine (uh HSK _).mono ?_
    rintro e w'' ⟨rfl, hb⟩
    exact ⟨rfl, hw'.trans (hb.mono hw'.size)⟩
   clear hK K
   iterate 2 (refine wpQuiet_step (fun K hK => ?_); go_simp; refine ⟨_, fun w' hw' => rfl, hK _ ?_⟩; clear hK K)
   refine wpQuiet_step (fun K hK => ?_)
   go_simp
   apply Exists.intro
   refine And.intro (fun w' hw' => ?_) (hK _ ?_)
   ·obtain ⟨hc', hf'⟩ := bcell hw'
    go_simp
    first | rfl | exact ⟨rfl, rfl⟩ | exact ⟨rfl⟩
   clear hK K
   iterate 3 (refine wpQuiet_step (fun K hK => ?_); go_simp; refine ⟨_, fun w' hw' => rfl, hK _ ?_⟩; clear hK K)
   refine wpQuiet_nil ?_
   intro w7 hw7
   have HB7 := uy ((uh HB).trans (hw7.mono (uh HB).size))
   clear hw7
   go_wp2
   go_ret
   exact ⟨by simp, uh HB7⟩
  subst hc
  have hKy := uh HKY rfl
  have hI := uh HI
  have hen : e = putD hN d kv v := by rw [← uh HE]; exact if_pos ⟨inv_ok hI, rfl, uh HVO⟩
  have hIe : Inv Ky hN e := by rw [hen]; exact putD_inv keyLaw hI hKy hKy.1 (uh HVO)
  have hWe : WfD e := by rw [hen]; exact (uh HWf).put hKy.2 (uh HVW)
  have hme : e.m ≤ 2404002 := by rw [hen]; have := putD_m (v := v) keyLaw hI hKy; omega
  have hSe : Small e := hIe.small (by omega)
  have hPL : PutLaw d e kv v := by rw [hen]; exact put_law hI (uh HNZ) (by omega) hKy (uh HNK) (uh HVO) (uh HVD)
  have HIe := uy hIe
  have HWe := uy hWe
  have HSe := uy hSe
  have HPL := uy hPL
  have HKy := uy hKy
  have HO0 := uy (inv_ok hI)
  have HO1 := uy (inv_ok hIe)
  have HPD : Hid (putO d 0 kv v = e) := HE
  clear hI hen hIe hWe hSe hPL hKy
  have d0 := (uh HX).d.c0
  have d1 := (uh HX).d.c1
  have d2 := (uh HX).d.c2
  have d3 := (uh HX).d.c3
  have d4 := (uh HX).d.c4
  have d5 := (uh HX).d.c5
  have ld := (uh HX).d.lt
  have e0 := (uh HX).e.c0
  have e1 := (uh HX).e.c1
  have e2 := (uh HX).e.c2
  have e3 := (uh HX).e.c3
  have e4 := (uh HX).e.c4
  have e5 := (uh HX).e.c5
  have le := (uh HX).e.lt
  have k0 := (uh HX).k.c0
  have k1 := (uh HX).k.c1
  have k2 := (uh HX).k.c2
  have k3 := (uh HX).k.c3
  have k4 := (uh HX).k.c4
  have lk := (uh HX).k.lt
  have v0 := (uh HX).v.c0
  have v1 := (uh HX).v.c1
  have v2 := (uh HX).v.c2
  have v3 := (uh HX).v.c3
  have v4 := (uh HX).v.c4
  have lv := (uh HX).v.lt
  go_wp2_with fail
  rw [← hZ, ← hE]
  clear hZ hE q0 lq
  clear d0 d1 d2 d3 d4 d5 e0 e1 e2 e3 e4 e5 k0 k1 k2 k3 k4 v0 v1 v2 v3 v4 ld le lk lv
  refine wpN_held (RS D Kb V E la lc ia ic xa xc d ea ec ja jc ya yc e ky v) (by kernel_rfl) ?_
  change wpAnyH _ _ _ _ _ _ _ _ (World.drew _)
  have hbd : Below Z.heap.size Z Z.drew := (Below.refl _ _).drew
  have HX0 := uy ((uh HX).below hbd)
  have HB0 := uy ((uh HB).trans (hbd.mono (uh HB).size))
  have hR0 := (uh HX0).rs
  clear hbd HX HB
  refine tk 0 (v := ?_) rfl (by kernel_rfl) (by rfl) ?_ (by assumption) ?_
  rotate_left
  ·intro w' ⟨s0, s1, s2, s3, s4, s5, s6, s7, s8, s9, s10, s11, s12, s13, s14, s15, s16, s17, s18, s19, s20, s21⟩; go_simp; try with_reducible rfl
  simp only [Act.put, sA, sB, sC]
  refine wpAnyH_ready (rs := [1]) (by kernel_rfl) (by simp) ?_
  refine AllReadyH.cons rfl (fun K hK => ?_) AllReadyH.nil
  go_simp
  refine (implOk la lc ia ic xa xc d _ (uh HX0).t (uh HX0).d.at' (uh HS) (uh HWf)).mono ?_
  rintro e' x1 ⟨rfl, hb⟩
  have HX1 := uy ((uh HX0).below hb)
  have HB1 := uy ((uh HB0).trans (hb.mono (uh HB0).size))
  have hR1 := (uh HX1).rs
  rw [uh HO0]
  refine hK.out _ _ hR1 (fun _ => ?_)
  clear hK K hb HX0 HB0 hR0
  refine tk 2 (v := ?_) rfl (by kernel_rfl) (by rfl) ?_ (by assumption) ?_
  rotate_left
  ·intro w' ⟨s0, s1, s2, s3, s4, s5, s6, s7, s8, s9, s10, s11, s12, s13, s14, s15, s16, s17, s18, s19, s20, s21⟩; go_simp; try with_reducible rfl
  simp only [Act.put, sA, sB, sC]
  refine tk 3 (v := ?_) rfl (by kernel_rfl) (by rfl) ?_ (by assumption) ?_
  rotate_left
  ·intro w' ⟨s0, s1, s2, s3, s4, s5, s6, s7, s8, s9, s10, s11, s12, s13, s14, s15, s16, s17, s18, s19, s20, s21⟩; go_simp; try with_reducible rfl
  simp only [Act.put, sA, sB, sC]
  refine tk 4 (v := ?_) rfl (by kernel_rfl) (by rfl) ?_ (by assumption) ?_
  rotate_left
  ·intro w' ⟨s0, s1, s2, s3, s4, s5, s6, s7, s8, s9, s10, s11, s12, s13, s14, s15, s16, s17, s18, s19, s20, s21⟩; go_simp; try with_reducible rfl
  simp only [Act.put, sA, sB, sC]
  refine wpAnyH_ready (rs := [5]) (by kernel_rfl) (by simp) ?_
  refine AllReadyH.cons rfl (fun K hK => ?_) AllReadyH.nil
  go_simp
  refine (implOk ea ec ja jc ya yc e _ (uh HX1).t (uh HX1).e.at' (uh HSe) (uh HWe)).mono ?_
  rintro e' x2 ⟨rfl, hb⟩
  have HX2 := uy ((uh HX1).below hb)
  have HB2 := uy ((uh HB1).trans (hb.mono (uh HB1).size))
  have hR2 := (uh HX2).rs
  rw [uh HO1]
  refine hK.out _ _ hR2 (fun _ => ?_)
  clear hK K hb HX1 HB1 hR1
  refine tk 6 (v := ?_) rfl (by kernel_rfl) (by rfl) ?_ (by assumption) ?_
  rotate_left
  ·intro w' ⟨s0, s1, s2, s3, s4, s5, s6, s7, s8, s9, s10, s11, s12, s13, s14, s15, s16, s17, s18, s19, s20, s21⟩; go_simp; try with_reducible rfl
  simp only [Act.put, sA, sB, sC]
  refine tk 7 (v := ?_) rfl (by kernel_rfl) (by rfl) ?_ (by assumption) ?_
  rotate_left
  ·intro w' ⟨s0, s1, s2, s3, s4, s5, s6, s7, s8, s9, s10, s11, s12, s13, s14, s15, s16, s17, s18, s19, s20, s21⟩; go_simp; try with_reducible rfl
  simp only [Act.put, sA, sB, sC]
  refine tk 8 (v := ?_) rfl (by kernel_rfl) (by rfl) ?_ (by assumption) ?_
  rotate_left
  ·intro w' ⟨s0, s1, s2, s3, s4, s5, s6, s7, s8, s9, s10, s11, s12, s13, s14, s15, s16, s17, s18, s19, s20, s21⟩; go_simp; try with_reducible rfl
  simp only [Act.put, sA, sB, sC]
  refine tk 9 (v := ?_) rfl (by kernel_rfl) (by rfl) ?_ (by assumption) ?_
  rotate_left
  ·intro w' ⟨s0, s1, s2, s3, s4, s5, s6, s7, s8, s9, s10, s11, s12, s13, s14, s15, s16, s17, s18, s19, s20, s21⟩; go_simp; try with_reducible rfl
  simp only [Act.put, sA, sB, sC]
  refine tk 10 (v := ?_) rfl (by kernel_rfl) (by rfl) ?_ (by assumption) ?_
  rotate_left
  ·intro w' ⟨s0, s1, s2, s3, s4, s5, s6, s7, s8, s9, s10, s11, s12, s13, s14, s15, s16, s17, s18, s19, s20, s21⟩; go_simp; try with_reducible rfl
  simp only [Act.put, sA, sB, sC]
  refine tk 11 (v := ?_) rfl (by kernel_rfl) (by rfl) ?_ (by assumption) ?_
  rotate_left
  ·intro w' ⟨s0, s1, s2, s3, s4, s5, s6, s7, s8, s9, s10, s11, s12, s13, s14, s15, s16, s17, s18, s19, s20, s21⟩; go_simp; try with_reducible rfl
  simp only [Act.put, sA, sB, sC]
  refine tk 12 (v := ?_) rfl (by kernel_rfl) (by rfl) ?_ (by assumption) ?_
  rotate_left
  ·intro w' ⟨s0, s1, s2, s3, s4, s5, s6, s7, s8, s9, s10, s11, s12, s13, s14, s15, s16, s17, s18, s19, s20, s21⟩; go_simp; try with_reducible rfl
  simp only [Act.put, sA, sB, sC]
  refine wpAnyH_ready (rs := [13]) (by kernel_rfl) (by simp) ?_
  refine AllReadyH.cons rfl (fun K hK => ?_) AllReadyH.nil
  go_simp
  refine (specPut la lc ia ic xa xc d ky v 0 kv _ (uh HX2).d.at' (uh HS) (uh HWf) (by omega) (uh HKV) (fun _ => uh HKy)).mono ?_
  rintro e' x3 ⟨⟨t0, t1, t2, rfl, hTV⟩, hb⟩
  rw [uh HPD] at hTV ⊢
  obtain ⟨fa, fc, ga, gc, ha, hc, rfl, rfl, rfl, hFA⟩ := hTV.at
  have HX3 := uy ((uh HX2).below hb)
  have HB3 := uy ((uh HB2).trans (hb.mono (uh HB2).size))
  have hR3 := (uh HX3).rs
  have HFA := uy hFA
  refine hK.out _ _ hR3 (fun _ => ?_)
  clear hK K hb HX2 HB2 hR2 hTV hFA
  refine wpAnyH_ready (rs := [14]) (by kernel_rfl) (by simp) ?_
  refine AllReadyH.cons rfl (fun K hK => ?_) AllReadyH.nil
  go_simp
  refine (wDict_same ea fa ja ga ya ha ec fc jc gc yc hc e _ (uh HX3).e.at' (uh HFA) (uh HSe)).mono ?_
  rintro e' x4 ⟨rfl, hb⟩
  have HX4 := uy ((uh HX3).below hb)
  have HB4 := uy ((uh HB3).trans (hb.mono (uh HB3).size))
  have hR4 := (uh HX4).rs
  refine hK.out _ _ hR4 (fun _ => ?_)
  clear hK K hb HX3 HB3 hR3
  refine tk 15 (v := ?_) rfl (by kernel_rfl) (by rfl) ?_ (by assumption) ?_
  rotate_left
  ·intro w' ⟨s0, s1, s2, s3, s4, s5, s6, s7, s8, s9, s10, s11, s12, s13, s14, s15, s16, s17, s18, s19, s20, s21⟩; go_simp; try with_reducible rfl
  simp only [Act.put, sA, sB, sC]
  refine tk 16 (v := ?_) rfl (by kernel_rfl) (by rfl) ?_ (by assumption) ?_
  rotate_left
  ·intro w' ⟨s0, s1, s2, s3, s4, s5, s6, s7, s8, s9, s10, s11, s12, s13, s14, s15, s16, s17, s18, s19, s20, s21⟩; go_simp; try with_reducible rfl
  simp only [Act.put, sA, sB, sC]
  refine wpAnyH_done (by kernel_rfl) ?_ _
  refine QN.normal ?_
  clear hR4
  have d0 := (uh HX4).d.c0
  have d1 := (uh HX4).d.c1
  have d2 := (uh HX4).d.c2
  have d3 := (uh HX4).d.c3
  have d4 := (uh HX4).d.c4
  have d5 := (uh HX4).d.c5
  have ld := (uh HX4).d.lt
  have k0 := (uh HX4).k.c0
  have k1 := (uh HX4).k.c1
  have k2 := (uh HX4).k.c2
  have k3 := (uh HX4).k.c3
  have k4 := (uh HX4).k.c4
  have lk := (uh HX4).k.lt
  go_wp2_with fail
  refine (implGet la lc ia ic xa xc d ky 0 kv _ (uh HX4).d.at' (uh HS) (uh HWf) (uh HKV) (fun _ => hsI_all _ (uh HKy)) (uh HX4).t).mono ?_
  rintro e' x5 ⟨rfl, hb⟩
  obtain ⟨old, hold⟩ : ∃ old, getV d 0 kv = old := ⟨_, rfl⟩
  rw [hold]
  have HOLD := uy hold
  obtain ⟨O, hO⟩ : ∃ O, O = x5.heap.size := ⟨_, rfl⟩
  obtain ⟨X, hX⟩ : ∃ X, X = x5.alloc (.cells #[.int .i64 old.kind, .int .i64 old.num, .float .f64 old.flt, .string old.str, .int .i64 old.ref] 30) := ⟨_, rfl⟩
  have hbX : Below x5.heap.size x5 X := by rw [hX]; exact (Below.refl _ _).alloc (Nat.le_refl _) _
  have HX5 := uy (((uh HX4).below hb).below hbX)
  have hB5 := (uh HB4).trans (hb.mono (uh HB4).size)
  have HB5 := uy (hB5.trans (hbX.mono hB5.size))
  have HO5 : Hid (VB X O old) := uy ⟨by rw [hX, hO]; simp, by rw [hX, hO]; simp [go_sem], by rw [hX, hO]; simp [go_sem], by rw [hX, hO]; simp [go_sem], by rw [hX, hO]; simp [go_sem], by rw [hX, hO]; simp [go_sem]⟩
  have hpn : prsN d = lvN d := if_pos (uh HO0)
  have hpe : prsN e = lvN e := if_pos (uh HO1)
  have HPN := uy hpn
  have HPE := uy hpe
  have hln : lvN d ≤ 4194304 := Nat.le_trans (List.length_filter_le (fun i => (d.L i).turn != 0) (List.range d.n)) (by rw [List.length_range]; exact (uh HS).n)
  have hle2 : lvN e ≤ 4194304 := Nat.le_trans (List.length_filter_le (fun i => (e.L i).turn != 0) (List.range e.n)) (by rw [List.length_range]; exact (uh HSe).n)
  have d0' := ((uh HX4).d.below hb).c0
  have d1' := ((uh HX4).d.below hb).c1
  have d2' := ((uh HX4).d.below hb).c2
  have d3' := ((uh HX4).d.below hb).c3
  have d4' := ((uh HX4).d.below hb).c4
  have d5' := ((uh HX4).d.below hb).c5
  have ld' := ((uh HX4).d.below hb).lt
  clear d0 d1 d2 d3 d4 d5 k0 k1 k2 k3 k4 ld lk hb hbX hB5 HX4 HB4 hold hpn hpe
  rcases Classical.em (old.kind = 0) with ho | ho
  case' inl =>
   have hod : (old.kind == 0) = true := by simp [ho]
   have HOK := uy ho
   clear ho
   go_wp2_with fail
   rw [← hX, ← hO]
   clear hX hO d0' d1' d2' d3' d4' d5' ld'
   refine (implPairs la lc ia ic xa xc d _ (uh HX5).t (uh HX5).d.at' (uh HS) (uh HWf)).mono ?_
   rintro e' X ⟨⟨pv, rfl, hP⟩, hb⟩
   rw [uh HPN] at hP
   obtain ⟨pa, pc, rfl, -⟩ := hP.at
   replace HX5 := uy ((uh HX5).below hb)
   replace HB5 := uy ((uh HB5).trans (hb.mono (uh HB5).size))
   replace HO5 := uy ((uh HO5).below hb)
   clear hb hP
   by_cases hl : lvN d = 500
   case' pos =>
    have hld : ((lvN d : Int) == 500) = true := by simp; omega
    have hfull : (getV d 0 kv).kind = 0 ∧ lvN d = 500 := ⟨by rw [uh HOLD]; exact uh HOK, hl⟩
    have HF := uy hfull
    have HLQ : Hid (v.kind ≠ 0 → ¬ (v.kind ≠ 0 ∧ (getV d 0 kv).kind = 0 ∧ ¬ ((getV d 0 kv).kind = 0 ∧ lvN d = 500)) → True) := uy fun _ _ => trivial
    have HLR : Hid ((v.kind ≠ 0 ∧ (getV d 0 kv).kind = 0 ∧ ¬ ((getV d 0 kv).kind = 0 ∧ lvN d = 500)) → False) := uy fun h => h.2.2 hfull
    clear hfull hl
    have e0 := (uh HX5).e.c0
    have e1 := (uh HX5).e.c1
    have e2 := (uh HX5).e.c2
    have e3 := (uh HX5).e.c3
    have e4 := (uh HX5).e.c4
    have e5 := (uh HX5).e.c5
    have le := (uh HX5).e.lt
    have k0 := (uh HX5).k.c0
    have k1 := (uh HX5).k.c1
    have k2 := (uh HX5).k.c2
    have k3 := (uh HX5).k.c3
    have k4 := (uh HX5).k.c4
    have lk := (uh HX5).k.lt
    have v0 := (uh HX5).v.c0
    have v1 := (uh HX5).v.c1
    have v2 := (uh HX5).v.c2
    have v3 := (uh HX5).v.c3
    have v4 := (uh HX5).v.c4
    have lv := (uh HX5).v.lt
    go_wp2_with fail
    refine wp_region_quiet (C := fun w' => Below X.heap.size X w') (by kernel_rfl) (by kernel_rfl) ((Below.refl _ _).drew) ?_
    show wpQuiet _ _ _ _ [_, _, _, _, _, _, _, _, _, _] _
    iterate 3 (refine wpQuiet_step (fun K hK => ?_); go_simp; refine ⟨_, fun w' hw' => rfl, hK _ ?_⟩; clear hK K)
    go_big_quiet_step (fail)
    go_big_quiet_step (fail)
    go_big_quiet_step (fail)
    go_big_quiet_step (fail)
    go_big_quiet_step (fail)
    go_big_quiet_step (fail)
    refine wpQuiet_step (fun K hK => ?_)
    go_simp
    refine ⟨_, fun w' hw' => rfl, hK _ ?_⟩
    clear hK K
   case' neg =>
    have hld : ((lvN d : Int) == 500) = false := by simp; omega
    have hnf : ¬ ((getV d 0 kv).kind = 0 ∧ lvN d = 500) := fun h => hl h.2
    have HF := uy hnf
    have HLQ : Hid (v.kind ≠ 0 → ¬ (v.kind ≠ 0 ∧ (getV d 0 kv).kind = 0 ∧ ¬ ((getV d 0 kv).kind = 0 ∧ lvN d = 500)) → False) := uy fun a b => b ⟨a, by rw [uh HOLD]; exact uh HOK, hnf⟩
    have HLR : Hid ((v.kind ≠ 0 ∧ (getV d 0 kv).kind = 0 ∧ ¬ ((getV d 0 kv).kind = 0 ∧ lvN d = 500)) → True) := uy fun _ => trivial
    clear hnf hl
    have e0 := (uh HX5).e.c0
    have e1 := (uh HX5).e.c1
    have e2 := (uh HX5).e.c2
    have e3 := (uh HX5).e.c3
    have e4 := (uh HX5).e.c4
    have e5 := (uh HX5).e.c5
    have le := (uh HX5).e.lt
    have k0 := (uh HX5).k.c0
    have k1 := (uh HX5).k.c1
    have k2 := (uh HX5).k.c2
    have k3 := (uh HX5).k.c3
    have k4 := (uh HX5).k.c4
    have lk := (uh HX5).k.lt
    have v0 := (uh HX5).v.c0
    have v1 := (uh HX5).v.c1
    have v2 := (uh HX5).v.c2
    have v3 := (uh HX5).v.c3
    have v4 := (uh HX5).v.c4
    have lv := (uh HX5).v.lt
    have HN := uy ((uh HPL).now (uh HF))
    have HGE : Hid (∀ w' : World, Below X.heap.size X w' → Calls Tryz.prog 20 #[Dv ea ec ja jc ya yc e, VV ky] w' fun e w'' => e = .returned (VV v) ∧ Below w'.heap.size w' w'') := uy fun w' hw' => by
     have := implGet ea ec ja jc ya yc e ky 0 kv w' ((uh HX5).e.at'.below hw') (uh HSe) (uh HWe) (uh HKV) (fun _ => hsI_all _ (uh HKy)) ((uh HX5).t.below hw' (uh HX5).t.sz)
     rw [uh HN] at this
     exact this
    go_wp2_with fail
    refine wp_region_quiet (C := fun w' => Below X.heap.size X w') (by kernel_rfl) (by kernel_rfl) ((Below.refl _ _).drew) ?_
    show wpQuiet _ _ _ _ [_, _, _, _, _, _, _, _, _, _] _
    iterate 3 (refine wpQuiet_step (fun K hK => ?_); go_simp; refine ⟨_, fun w' hw' => rfl, hK _ ?_⟩; clear hK K)
    refine wpQuiet_step (fun K hK => ?_)
    go_simp
    apply Exists.intro
    refine And.intro (fun w' hw' => ?_) (hK _ ?_)
    ·obtain ⟨hc', hf'⟩ := bcell hw'
     go_simp
     first | rfl | exact ⟨rfl, rfl⟩ | exact ⟨rfl⟩
    clear hK K
    refine wpQuiet_step (fun K hK => ?_)
    go_simp
    apply Exists.intro
    refine And.intro (fun w' hw' => ?_) (hK _ ?_)
    ·obtain ⟨hc', hf'⟩ := bcell hw'
     go_simp
     first | rfl | exact ⟨rfl, rfl⟩ | exact ⟨rfl⟩
    clear hK K
    refine wpQuiet_step (fun K hK => ?_)
    go_simp
    apply Exists.intro
    refine And.intro (fun w' hw' => ?_) (hK _ ?_)
    ·refine (uh HGE w' hw').mono ?_
     rintro e w'' ⟨rfl, hb⟩
     exact ⟨rfl, hw'.trans (hb.mono hw'.size)⟩
    clear hK K
    refine wpQuiet_step (fun K hK => ?_)
    go_simp
    apply Exists.intro
    refine And.intro (fun w' hw' => ?_) (hK _ ?_)
    ·obtain ⟨hc', hf'⟩ := bcell hw'
     go_simp
     first | rfl | exact ⟨rfl, rfl⟩ | exact ⟨rfl⟩
    clear hK K
    refine wpQuiet_step (fun K hK => ?_)
    go_simp
    apply Exists.intro
    refine And.intro (fun w' hw' => ?_) (hK _ ?_)
    ·refine (wVal_self _ _ _ _ _ _).mono ?_
     rintro e w'' ⟨rfl, hb⟩
     exact ⟨rfl, hw'.trans (hb.mono hw'.size)⟩
    clear hK K
    iterate 2 (refine wpQuiet_step (fun K hK => ?_); go_simp; refine ⟨_, fun w' hw' => rfl, hK _ ?_⟩; clear hK K)
  case' inr =>
   have hod : (old.kind == 0) = false := by simp [ho]
   have hnf : ¬ ((getV d 0 kv).kind = 0 ∧ lvN d = 500) := fun h => ho (by rw [← uh HOLD]; exact h.1)
   have HF := uy hnf
   have HOK := uy ho
   have HLQ : Hid (v.kind ≠ 0 → ¬ (v.kind ≠ 0 ∧ (getV d 0 kv).kind = 0 ∧ ¬ ((getV d 0 kv).kind = 0 ∧ lvN d = 500)) → True) := uy fun _ _ => trivial
   have HLR : Hid ((v.kind ≠ 0 ∧ (getV d 0 kv).kind = 0 ∧ ¬ ((getV d 0 kv).kind = 0 ∧ lvN d = 500)) → False) := uy fun h => ho (by rw [← uh HOLD]; exact h.2.1)
   clear hnf ho
   have e0 := (uh HX5).e.c0
   have e1 := (uh HX5).e.c1
   have e2 := (uh HX5).e.c2
   have e3 := (uh HX5).e.c3
   have e4 := (uh HX5).e.c4
   have e5 := (uh HX5).e.c5
   have le := (uh HX5).e.lt
   have k0 := (uh HX5).k.c0
   have k1 := (uh HX5).k.c1
   have k2 := (uh HX5).k.c2
   have k3 := (uh HX5).k.c3
   have k4 := (uh HX5).k.c4
   have lk := (uh HX5).k.lt
   have v0 := (uh HX5).v.c0
   have v1 := (uh HX5).v.c1
   have v2 := (uh HX5).v.c2
   have v3 := (uh HX5).v.c3
   have v4 := (uh HX5).v.c4
   have lv := (uh HX5).v.lt
   have HN := uy ((uh HPL).now (uh HF))
   have HGE : Hid (∀ w' : World, Below X.heap.size X w' → Calls Tryz.prog 20 #[Dv ea ec ja jc ya yc e, VV ky] w' fun e w'' => e = .returned (VV v) ∧ Below w'.heap.size w' w'') := uy fun w' hw' => by
    have := implGet ea ec ja jc ya yc e ky 0 kv w' ((uh HX5).e.at'.below hw') (uh HSe) (uh HWe) (uh HKV) (fun _ => hsI_all _ (uh HKy)) ((uh HX5).t.below hw' (uh HX5).t.sz)
    rw [uh HN] at this
    exact this
   go_wp2_with fail
   rw [← hX, ← hO]
   clear hX hO d0' d1' d2' d3' d4' d5' ld'
   refine wp_region_quiet (C := fun w' => Below X.heap.size X w') (by kernel_rfl) (by kernel_rfl) ((Below.refl _ _).drew) ?_
   show wpQuiet _ _ _ _ [_, _, _, _, _, _, _, _, _, _] _
   iterate 3 (refine wpQuiet_step (fun K hK => ?_); go_simp; refine ⟨_, fun w' hw' => rfl, hK _ ?_⟩; clear hK K)
   refine wpQuiet_step (fun K hK => ?_)
   go_simp
   apply Exists.intro
   refine And.intro (fun w' hw' => ?_) (hK _ ?_)
   ·obtain ⟨hc', hf'⟩ := bcell hw'
    go_simp
    first | rfl | exact ⟨rfl, rfl⟩ | exact ⟨rfl⟩
   clear hK K
   refine wpQuiet_step (fun K hK => ?_)
   go_simp
   apply Exists.intro
   refine And.intro (fun w' hw' => ?_) (hK _ ?_)
   ·obtain ⟨hc', hf'⟩ := bcell hw'
    go_simp
    first | rfl | exact ⟨rfl, rfl⟩ | exact ⟨rfl⟩
   clear hK K
   refine wpQuiet_step (fun K hK => ?_)
   go_simp
   apply Exists.intro
   refine And.intro (fun w' hw' => ?_) (hK _ ?_)
   ·refine (uh HGE w' hw').mono ?_
    rintro e w'' ⟨rfl, hb⟩
    exact ⟨rfl, hw'.trans (hb.mono hw'.size)⟩
   clear hK K
   refine wpQuiet_step (fun K hK => ?_)
   go_simp
   apply Exists.intro
   refine And.intro (fun w' hw' => ?_) (hK _ ?_)
   ·obtain ⟨hc', hf'⟩ := bcell hw'
    go_simp
    first | rfl | exact ⟨rfl, rfl⟩ | exact ⟨rfl⟩
   clear hK K
   refine wpQuiet_step (fun K hK => ?_)
   go_simp
   apply Exists.intro
   refine And.intro (fun w' hw' => ?_) (hK _ ?_)
   ·refine (wVal_self _ _ _ _ _ _).mono ?_
    rintro e w'' ⟨rfl, hb⟩
    exact ⟨rfl, hw'.trans (hb.mono hw'.size)⟩
   clear hK K
   iterate 2 (refine wpQuiet_step (fun K hK => ?_); go_simp; refine ⟨_, fun w' hw' => rfl, hK _ ?_⟩; clear hK K)
  all_goals
   refine wpQuiet_nil ?_
   intro y1 hy1
   have HY1 := uy ((uh HX5).below hy1)
   have HC1 := uy ((uh HB5).trans (hy1.mono (uh HB5).size))
   have HP1 := uy ((uh HO5).below hy1)
   clear e0 e1 e2 e3 e4 e5 k0 k1 k2 k3 k4 v0 v1 v2 v3 v4 le lk lv hy1 HX5 HB5 HO5
   have e0 := (uh HY1).e.c0
   have e1 := (uh HY1).e.c1
   have e2 := (uh HY1).e.c2
   have e3 := (uh HY1).e.c3
   have e4 := (uh HY1).e.c4
   have e5 := (uh HY1).e.c5
   have le := (uh HY1).e.lt
   go_wp2_with fail
   refine (implPairs ea ec ja jc ya yc e _ (uh HY1).t (uh HY1).e.at' (uh HSe) (uh HWe)).mono ?_
   rintro e' y2 ⟨⟨pv, rfl, hP⟩, hb⟩
   rw [uh HPE] at hP
   obtain ⟨pe, pf, rfl, hPA⟩ := hP.at
   have HY2 := uy ((uh HY1).below hb)
   have HC2 := uy ((uh HC1).trans (hb.mono (uh HC1).size))
   have HP2 := uy ((uh HP1).below hb)
   have HL2 := uy hPA
   clear e0 e1 e2 e3 e4 e5 le hb hP hPA HY1 HC1 HP1
   have d0 := (uh HY2).d.c0
   have d1 := (uh HY2).d.c1
   have d2 := (uh HY2).d.c2
   have d3 := (uh HY2).d.c3
   have d4 := (uh HY2).d.c4
   have d5 := (uh HY2).d.c5
   have ld := (uh HY2).d.lt
   go_wp2_with fail
   refine (implPairs la lc ia ic xa xc d _ (uh HY2).t (uh HY2).d.at' (uh HS) (uh HWf)).mono ?_
   rintro e' y3 ⟨⟨pv, rfl, hP⟩, hb⟩
   rw [uh HPN] at hP
   obtain ⟨pd, pg, rfl, hPA⟩ := hP.at
   have HY3 := uy ((uh HY2).below hb)
   have HC3 := uy ((uh HC2).trans (hb.mono (uh HC2).size))
   have HP3 := uy ((uh HP2).below hb)
   have HL3 := uy ((uh HL2).below hb rfl)
   have HM3 := uy hPA
   clear d0 d1 d2 d3 d4 d5 ld hb hP hPA HY2 HC2 HP2 HL2
   go_wp2
   go_loopw [100] (fun i wr => ∃ (j : Nat), j ≤ lvN d ∧ i = .int .i64 j ∧ Below y3.heap.size y3 wr) (fun i _ => lvN d - (intOf i).toNat)
   case atStart => exact ⟨0, by omega, rfl, Below.refl _ _⟩
   case round =>
    obtain ⟨j, hj, rfl, hbr⟩ := hrel
    by_cases hlt : j < lvN d
    ·obtain ⟨pb, po, rfl, hpb, hcs⟩ := (uh HM3).resolve_left (by omega)
     obtain ⟨p, hp⟩ : ∃ p, lvF d j = p := ⟨_, rfl⟩
     have hcj := hcs j hlt
     rw [hp] at hcj
     obtain ⟨m0, m1, m2, m3, m4, m5, m6, m7, m8, m9, m10⟩ := hcj.keep (fun q => hbr.cell (p := ⟨pb, q, none⟩) hpb)
     have lp : pb < wr.heap.size := Nat.lt_of_lt_of_le hpb hbr.size
     obtain ⟨R, hR⟩ : ∃ R, R = wr.alloc (.cells #[.int .i64 p.key.kind, .int .i64 p.key.num, .float .f64 p.key.flt, .string p.key.str, .int .i64 p.key.ref, .int .i64 p.val.kind, .int .i64 p.val.num, .float .f64 p.val.flt, .string p.val.str, .int .i64 p.val.ref, .int .i64 p.turn] 43) := ⟨_, rfl⟩
     obtain ⟨F, hF⟩ : ∃ F, F = wr.heap.size := ⟨_, rfl⟩
     have hbR : Below wr.heap.size wr R := by rw [hR]; exact (Below.refl _ _).alloc (Nat.le_refl _) _
     have hbT := hbr.trans (hbR.mono hbr.size)
     have HYR := uy ((uh HY3).below hbT)
     have HBT := uy hbT
     have HCR := uy ((uh HC3).trans (hbT.mono (uh HC3).size))
     have r0 : R.cell? ⟨F, 0, none⟩ = some (.int .i64 p.key.kind) := by rw [hR, hF]; simp [go_sem]
     have r1 : R.cell? ⟨F, 1, none⟩ = some (.int .i64 p.key.num) := by rw [hR, hF]; simp [go_sem]
     have r2 : R.cell? ⟨F, 2, none⟩ = some (.float .f64 p.key.flt) := by rw [hR, hF]; simp [go_sem]
     have r3 : R.cell? ⟨F, 3, none⟩ = some (.string p.key.str) := by rw [hR, hF]; simp [go_sem]
     have r4 : R.cell? ⟨F, 4, none⟩ = some (.int .i64 p.key.ref) := by rw [hR, hF]; simp [go_sem]
     have r5 : R.cell? ⟨F, 5, none⟩ = some (.int .i64 p.val.kind) := by rw [hR, hF]; simp [go_sem]
     have r6 : R.cell? ⟨F, 6, none⟩ = some (.int .i64 p.val.num) := by rw [hR, hF]; simp [go_sem]
     have r7 : R.cell? ⟨F, 7, none⟩ = some (.float .f64 p.val.flt) := by rw [hR, hF]; simp [go_sem]
     have r8 : R.cell? ⟨F, 8, none⟩ = some (.string p.val.str) := by rw [hR, hF]; simp [go_sem]
     have r9 : R.cell? ⟨F, 9, none⟩ = some (.int .i64 p.val.ref) := by rw [hR, hF]; simp [go_sem]
     have lr : F < R.heap.size := by rw [hR, hF]; simp
     obtain ⟨x, hx⟩ : ∃ x, (∀ w : World, Calls Tryz.prog 22 #[VV p.key, VV kv] w fun e w' => e = .returned (.bool x) ∧ Below w.heap.size w w') ∧ (x = false → p.key ≠ kv) := by
      by_cases hpk : p.key = kv
      ·exact ⟨true, fun w => by rw [hpk]; exact wVal_self _ _ _ _ _ w, fun h => by cases h⟩
      ·obtain ⟨x, hx⟩ := wVal_det p.key kv
       exact ⟨x, hx, fun _ => hpk⟩
     have HW := uy hx.1
     have HGP : Hid (x = false → ∀ w' : World, Below R.heap.size R w' → Calls Tryz.prog 20 #[Dv ea ec ja jc ya yc e, VV p.key] w' fun e w'' => e = .returned (VV p.val) ∧ Below w'.heap.size w' w'') := uy fun h0 w' hw' => by
      have hkp : Ky p.key := by rw [← hp]; exact (uh HI).keyOf (lv_has (uh HI) hlt)
      have := implGet ea ec ja jc ya yc e p.key 0 p.key w' ((uh HYR).e.at'.below hw') (uh HSe) (uh HWe) (keyV_key hkp) (fun _ => hsI_all _ hkp) ((uh HYR).t.below hw' (uh HYR).t.sz)
      have hr := (uh HPL).rest j hlt (by rw [hp]; exact hx.2 h0)
      rw [hp] at hr
      rw [hr] at this
      exact this
     clear hcs hcj hx hbR hbT
     cases x
     ·have HGQ := uy (uh HGP rfl)
      clear HGP
      have q0 := (uh HYR).q.c0
      have q1 := (uh HYR).q.c1
      have q2 := (uh HYR).q.c2
      have q3 := (uh HYR).q.c3
      have q4 := (uh HYR).q.c4
      have q5 := (uh HYR).q.c5
      have lq := (uh HYR).q.lt
      have e0 := (uh HYR).e.c0
      have e1 := (uh HYR).e.c1
      have e2 := (uh HYR).e.c2
      have e3 := (uh HYR).e.c3
      have e4 := (uh HYR).e.c4
      have e5 := (uh HYR).e.c5
      have le := (uh HYR).e.lt
      go_wp2_with fail
      rw [← hR, ← hF]
      clear hR hF m0 m1 m2 m3 m4 m5 m6 m7 m8 m9 m10 lp
      refine wp_region_quiet (C := fun w' => Below R.heap.size R w') (by kernel_rfl) (by kernel_rfl) ((Below.refl _ _).drew) ?_
      show wpQuiet _ _ _ _ [_, _, _, _, _, _, _, _, _, _, _, _, _, _, _, _] _
      refine wpQuiet_step (fun K hK => ?_)
      go_simp
      refine ⟨_, fun w' hw' => rfl, hK _ ?_⟩
      clear hK K
      refine wpQuiet_step (fun K hK => ?_)
      go_simp
      apply Exists.intro
      refine And.intro (fun w' hw' => ?_) (hK _ ?_)
      ·obtain ⟨hc', hf'⟩ := bcell hw'
       go_simp
       first | rfl | exact ⟨rfl, rfl⟩ | exact ⟨rfl⟩
      clear hK K
      refine wpQuiet_step (fun K hK => ?_)
      go_simp
      refine ⟨_, fun w' hw' => rfl, hK _ ?_⟩
      clear hK K
      refine wpQuiet_step (fun K hK => ?_)
      go_simp
      apply Exists.intro
      refine And.intro (fun w' hw' => ?_) (hK _ ?_)
      ·obtain ⟨hc', hf'⟩ := bcell hw'
       go_simp
       first | rfl | exact ⟨rfl, rfl⟩ | exact ⟨rfl⟩
      clear hK K
      refine wpQuiet_step (fun K hK => ?_)
      go_simp
      apply Exists.intro
      refine And.intro (fun w' hw' => ?_) (hK _ ?_)
      ·refine (uh HW _).mono ?_
       rintro e w'' ⟨rfl, hb⟩
       exact ⟨rfl, hw'.trans (hb.mono hw'.size)⟩
      clear hK K
      iterate 2 (refine wpQuiet_step (fun K hK => ?_); go_simp; refine ⟨_, fun w' hw' => rfl, hK _ ?_⟩; clear hK K)
      refine wpQuiet_step (fun K hK => ?_)
      go_simp
      apply Exists.intro
      refine And.intro (fun w' hw' => ?_) (hK _ ?_)
      ·obtain ⟨hc', hf'⟩ := bcell hw'
       go_simp
       first | rfl | exact ⟨rfl, rfl⟩ | exact ⟨rfl⟩
      clear hK K
      refine wpQuiet_step (fun K hK => ?_)
      go_simp
      refine ⟨_, fun w' hw' => rfl, hK _ ?_⟩
      clear hK K
      refine wpQuiet_step (fun K hK => ?_)
      go_simp
      apply Exists.intro
      refine And.intro (fun w' hw' => ?_) (hK _ ?_)
      ·obtain ⟨hc', hf'⟩ := bcell hw'
       go_simp
       first | rfl | exact ⟨rfl, rfl⟩ | exact ⟨rfl⟩
      clear hK K
      refine wpQuiet_step (fun K hK => ?_)
      go_simp
      apply Exists.intro
      refine And.intro (fun w' hw' => ?_) (hK _ ?_)
      ·refine (uh HGQ w' hw').mono ?_
       rintro e w'' ⟨rfl, hb⟩
       exact ⟨rfl, hw'.trans (hb.mono hw'.size)⟩
      clear hK K
      refine wpQuiet_step (fun K hK => ?_)
      go_simp
      refine ⟨_, fun w' hw' => rfl, hK _ ?_⟩
      clear hK K
      refine wpQuiet_step (fun K hK => ?_)
      go_simp
      apply Exists.intro
      refine And.intro (fun w' hw' => ?_) (hK _ ?_)
      ·obtain ⟨hc', hf'⟩ := bcell hw'
       go_simp
       first | rfl | exact ⟨rfl, rfl⟩ | exact ⟨rfl⟩
      clear hK K
      refine wpQuiet_step (fun K hK => ?_)
      go_simp
      apply Exists.intro
      refine And.intro (fun w' hw' => ?_) (hK _ ?_)
      ·refine (wVal_self _ _ _ _ _ _).mono ?_
       rintro e w'' ⟨rfl, hb⟩
       exact ⟨rfl, hw'.trans (hb.mono hw'.size)⟩
      clear hK K
      iterate 2 (refine wpQuiet_step (fun K hK => ?_); go_simp; refine ⟨_, fun w' hw' => rfl, hK _ ?_⟩; clear hK K)
      refine wpQuiet_nil ?_
      intro y4 hy4
      have HB4 := uy ((uh HBT).trans (hy4.mono (uh HBT).size))
      clear hy4 r0 r1 r2 r3 r4 r5 r6 r7 r8 r9 lr
      clear q0 q1 q2 q3 q4 q5 e0 e1 e2 e3 e4 e5 lq le
      go_wp2
      go_roundw
      case rel => exact ⟨j + 1, by omega, by go_num, uh HB4⟩
      case measure => simp [intOf]; omega
     ·clear HGP
      have q0 := (uh HYR).q.c0
      have q1 := (uh HYR).q.c1
      have q2 := (uh HYR).q.c2
      have q3 := (uh HYR).q.c3
      have q4 := (uh HYR).q.c4
      have q5 := (uh HYR).q.c5
      have lq := (uh HYR).q.lt
      have e0 := (uh HYR).e.c0
      have e1 := (uh HYR).e.c1
      have e2 := (uh HYR).e.c2
      have e3 := (uh HYR).e.c3
      have e4 := (uh HYR).e.c4
      have e5 := (uh HYR).e.c5
      have le := (uh HYR).e.lt
      go_wp2_with fail
      rw [← hR, ← hF]
      clear hR hF m0 m1 m2 m3 m4 m5 m6 m7 m8 m9 m10 lp
      refine wp_region_quiet (C := fun w' => Below R.heap.size R w') (by kernel_rfl) (by kernel_rfl) ((Below.refl _ _).drew) ?_
      show wpQuiet _ _ _ _ [_, _, _, _, _, _, _, _, _, _, _, _, _, _, _, _] _
      refine wpQuiet_step (fun K hK => ?_)
      go_simp
      refine ⟨_, fun w' hw' => rfl, hK _ ?_⟩
      clear hK K
      refine wpQuiet_step (fun K hK => ?_)
      go_simp
      apply Exists.intro
      refine And.intro (fun w' hw' => ?_) (hK _ ?_)
      ·obtain ⟨hc', hf'⟩ := bcell hw'
       go_simp
       first | rfl | exact ⟨rfl, rfl⟩ | exact ⟨rfl⟩
      clear hK K
      refine wpQuiet_step (fun K hK => ?_)
      go_simp
      refine ⟨_, fun w' hw' => rfl, hK _ ?_⟩
      clear hK K
      refine wpQuiet_step (fun K hK => ?_)
      go_simp
      apply Exists.intro
      refine And.intro (fun w' hw' => ?_) (hK _ ?_)
      ·obtain ⟨hc', hf'⟩ := bcell hw'
       go_simp
       first | rfl | exact ⟨rfl, rfl⟩ | exact ⟨rfl⟩
      clear hK K
      refine wpQuiet_step (fun K hK => ?_)
      go_simp
      apply Exists.intro
      refine And.intro (fun w' hw' => ?_) (hK _ ?_)
      ·refine (uh HW _).mono ?_
       rintro e w'' ⟨rfl, hb⟩
       exact ⟨rfl, hw'.trans (hb.mono hw'.size)⟩
      clear hK K
      iterate 2 (refine wpQuiet_step (fun K hK => ?_); go_simp; refine ⟨_, fun w' hw' => rfl, hK _ ?_⟩; clear hK K)
      go_big_quiet_step (fail)
      go_big_quiet_step (fail)
      go_big_quiet_step (fail)
      go_big_quiet_step (fail)
      go_big_quiet_step (fail)
      go_big_quiet_step (fail)
      go_big_quiet_step (fail)
      go_big_quiet_step (fail)
      refine wpQuiet_step (fun K hK => ?_)
      go_simp
      refine ⟨_, fun w' hw' => rfl, hK _ ?_⟩
      clear hK K
      refine wpQuiet_nil ?_
      intro y4 hy4
      have HB4 := uy ((uh HBT).trans (hy4.mono (uh HBT).size))
      clear hy4 r0 r1 r2 r3 r4 r5 r6 r7 r8 r9 lr
      clear q0 q1 q2 q3 q4 q5 e0 e1 e2 e3 e4 e5 lq le
      go_wp2
      go_roundw
      case rel => exact ⟨j + 1, by omega, by go_num, uh HB4⟩
      case measure => simp [intOf]; omega
    ·have hjn : j = lvN d := by omega
     subst hjn
     clear HM3
     go_wp2
     go_loopw [15] (fun i wq => ∃ (i' : Nat), 1 ≤ i' ∧ i = .int .i64 i' ∧ (i' ≤ lvN e ∨ i' = 1) ∧ Below y3.heap.size y3 wq) (fun i _ => lvN e - (intOf i).toNat)
     case atStart => exact ⟨1, by omega, rfl, .inr rfl, hbr⟩
     case round =>
      obtain ⟨i, hi1, rfl, hi2, hbq⟩ := hrel
      by_cases hlt2 : i < lvN e
      ·obtain ⟨i, rfl⟩ : ∃ q, i = q + 1 := ⟨i - 1, by omega⟩
       obtain ⟨pb, po, rfl, hpb, hcs⟩ := (uh HL3).resolve_left (by omega)
       have g1 := (hbq.cell (p := ⟨pb, po + i * 11 + 10, none⟩) hpb).trans (hcs i (by omega)).tn
       have g2 := (hbq.cell (p := ⟨pb, po + (i + 1) * 11 + 10, none⟩) hpb).trans (hcs (i + 1) hlt2).tn
       have hord := lv_order (uh HIe) hlt2
       have hod2 : decide ((lvF e (i + 1)).turn ≤ (lvF e i).turn) = false := by simp; omega
       have lp : pb < wr.heap.size := Nat.lt_of_lt_of_le hpb hbq.size
       have hlt3 : (i : Int) + 1 < (lvN e : Int) := by omega
       have hlt4 : (i : Int) < (lvN e : Int) := by omega
       have hnn : (0 : Int) ≤ (i : Int) + 1 := by omega
       have hnn2 : (0 : Int) ≤ (i : Int) := by omega
       have hwi : IntKind.i64.wrap (i : Int) = (i : Int) := by rw [IntKind.wrap_i64]; omega
       have HBQ := uy hbq
       clear hcs hbq hord
       go_wp2_with fail
       refine wp_region_quiet (C := fun w' => Below wr.heap.size wr w') (by kernel_rfl) (by kernel_rfl) ((Below.refl _ _).drew) ?_
       show wpQuiet _ _ _ _ [_, _, _, _, _, _, _, _, _, _, _, _] _
       iterate 4 (refine wpQuiet_step (fun K hK => ?_); go_simp; refine ⟨_, fun w' hw' => rfl, hK _ ?_⟩; clear hK K)
       refine wpQuiet_step (fun K hK => ?_)
       go_simp
       apply Exists.intro
       refine And.intro (fun w' hw' => ?_) (hK _ ?_)
       ·obtain ⟨hc', hf'⟩ := bcell hw'
        go_simp
        first | rfl | exact ⟨rfl, rfl⟩ | exact ⟨rfl⟩
       clear hK K
       iterate 5 (refine wpQuiet_step (fun K hK => ?_); go_simp; refine ⟨_, fun w' hw' => rfl, hK _ ?_⟩; clear hK K)
       refine wpQuiet_step (fun K hK => ?_)
       go_simp
       apply Exists.intro
       refine And.intro (fun w' hw' => ?_) (hK _ ?_)
       ·obtain ⟨hc', hf'⟩ := bcell hw'
        go_simp
        first | rfl | exact ⟨rfl, rfl⟩ | exact ⟨rfl⟩
       clear hK K
       refine wpQuiet_step (fun K hK => ?_)
       go_simp
       refine ⟨_, fun w' hw' => rfl, hK _ ?_⟩
       clear hK K
       refine wpQuiet_nil ?_
       intro y5 hy5
       have HB5 := uy ((uh HBQ).trans (hy5.mono (uh HBQ).size))
       clear hy5 g1 g2 lp
       go_wp2
       go_roundw
       case rel => exact ⟨i + 1 + 1, by omega, by go_num, .inl (by omega), uh HB5⟩
       case measure => simp [intOf]; omega
      ·have hge : ¬ (i : Int) < (lvN e : Int) := by omega
       have HY5 := uy ((uh HY3).below hbq)
       have HC5 := uy ((uh HC3).trans (hbq.mono (uh HC3).size))
       have HP5 := uy ((uh HP3).below hbq)
       have HL5 := uy ((uh HL3).below hbq rfl)
       have o0 := (uh HP5).c0
       have lo := (uh HP5).lt
       have v0 := (uh HY5).v.c0
       have lv := (uh HY5).v.lt
       have e5 := (uh HY5).e.c5
       have le := (uh HY5).e.lt
       have d5 := (uh HY5).d.c5
       have ld := (uh HY5).d.lt
       clear hbq HY3 HC3 HP3 HL3
       by_cases hnew : v.kind ≠ 0 ∧ (getV d 0 kv).kind = 0 ∧ ¬ ((getV d 0 kv).kind = 0 ∧ lvN d = 500)
       ·have hq := uh HLR hnew
        cases hq
        all_goals
         obtain ⟨f1, f2, f3⟩ := (uh HPL).last hnew.1 hnew.2.1 hnew.2.2
         have hvd2 : (v.kind != 0) = true := by simpa using hnew.1
         obtain ⟨L, hL⟩ : ∃ L, L = lvN e - 1 := ⟨_, rfl⟩
         obtain ⟨pb, po, rfl, hpb, hcs⟩ := (uh HL5).resolve_left (by omega)
         have hcl := hcs L (by omega)
         rw [← hL] at f2
         obtain ⟨pl, hpl⟩ : ∃ p, lvF e L = p := ⟨_, rfl⟩
         rw [hpl] at hcl f2
         obtain ⟨m0, m1, m2, m3, m4, -, -, -, -, -, -⟩ := hcl
         rw [f2] at m0 m1 m2 m3 m4
         rw [f3] at e5
         have hwL : IntKind.i64.wrap (((lvN e : Nat) : Int) - 1) = (L : Int) := by rw [IntKind.wrap_i64]; omega
         have hL0 : (0 : Int) ≤ (L : Int) := by omega
         have hLl : (L : Int) < ((lvN e : Nat) : Int) := by omega
         have hLp : (0 : Int) < ((lvN e : Nat) : Int) := by omega
         have htn2 : 0 ≤ d.turns := (uh HI).i0.turns.1
         have hwt : IntKind.i64.wrap (d.turns + 1) = d.turns + 1 := by rw [IntKind.wrap_i64]; omega
         have q1 := (uh HY5).q.c1
         have q2 := (uh HY5).q.c2
         have q3 := (uh HY5).q.c3
         have q4 := (uh HY5).q.c4
         have q5 := (uh HY5).q.c5
         have lq := (uh HY5).q.lt
         have hf1 := f1
         clear hcs f1 f2 f3 hpl hL hnew
         go_wp2_with fail
         refine wp_region_quiet (C := fun w' => Below wr.heap.size wr w') (by kernel_rfl) (by kernel_rfl) ((Below.refl _ _).drew) ?_
         show wpQuiet _ _ _ _ [_, _, _, _, _, _, _, _, _, _, _, _, _, _, _, _, _, _, _, _, _, _, _, _] _
         iterate 10 (refine wpQuiet_step (fun K hK => ?_); go_simp; refine ⟨_, fun w' hw' => rfl, hK _ ?_⟩; clear hK K)
         refine wpQuiet_step (fun K hK => ?_)
         go_simp
         apply Exists.intro
         refine And.intro (fun w' hw' => ?_) (hK _ ?_)
         ·obtain ⟨hc', hf'⟩ := bcell hw'
          go_simp
          first | rfl | exact ⟨rfl, rfl⟩ | exact ⟨rfl⟩
         clear hK K
         refine wpQuiet_step (fun K hK => ?_)
         go_simp
         refine ⟨_, fun w' hw' => rfl, hK _ ?_⟩
         clear hK K
         refine wpQuiet_step (fun K hK => ?_)
         go_simp
         apply Exists.intro
         refine And.intro (fun w' hw' => ?_) (hK _ ?_)
         ·obtain ⟨hc', hf'⟩ := bcell hw'
          go_simp
          first | rfl | exact ⟨rfl, rfl⟩ | exact ⟨rfl⟩
         clear hK K
         refine wpQuiet_step (fun K hK => ?_)
         go_simp
         apply Exists.intro
         refine And.intro (fun w' hw' => ?_) (hK _ ?_)
         ·refine (wVal_self _ _ _ _ _ _).mono ?_
          rintro e w'' ⟨rfl, hb⟩
          exact ⟨rfl, hw'.trans (hb.mono hw'.size)⟩
         clear hK K
         iterate 3 (refine wpQuiet_step (fun K hK => ?_); go_simp; refine ⟨_, fun w' hw' => rfl, hK _ ?_⟩; clear hK K)
         refine wpQuiet_step (fun K hK => ?_)
         go_simp
         apply Exists.intro
         refine And.intro (fun w' hw' => ?_) (hK _ ?_)
         ·obtain ⟨hc', hf'⟩ := bcell hw'
          go_simp
          first | rfl | exact ⟨rfl, rfl⟩ | exact ⟨rfl⟩
         clear hK K
         refine wpQuiet_step (fun K hK => ?_)
         go_simp
         refine ⟨_, fun w' hw' => rfl, hK _ ?_⟩
         clear hK K
         refine wpQuiet_step (fun K hK => ?_)
         go_simp
         apply Exists.intro
         refine And.intro (fun w' hw' => ?_) (hK _ ?_)
         ·obtain ⟨hc', hf'⟩ := bcell hw'
          go_simp
          first | rfl | exact ⟨rfl, rfl⟩ | exact ⟨rfl⟩
         clear hK K
         iterate 4 (refine wpQuiet_step (fun K hK => ?_); go_simp; refine ⟨_, fun w' hw' => rfl, hK _ ?_⟩; clear hK K)
         refine wpQuiet_nil ?_
         intro y6 hy6
         have HC6 := uy ((uh HC5).trans (hy6.mono (uh HC5).size))
         clear hy6
         go_wp2
         go_ret
         exact ⟨by first | rfl | simp, uh HC6⟩
       ·by_cases hv0 : v.kind = 0
        ·have hvd2 : (v.kind != 0) = false := by simpa using hv0
         clear hv0
         have hte : e.turns = d.turns := (uh HPL).same hnew
         rw [hte] at e5
         clear hte hnew
         go_wp2
         go_ret
         exact ⟨by first | rfl | simp, uh HC5⟩
        ·have hvd2 : (v.kind != 0) = true := by simpa using hv0
         have hq := uh HLQ hv0 hnew
         cases hq
         all_goals
          clear hv0
          have hte : e.turns = d.turns := (uh HPL).same hnew
          rw [hte] at e5
          clear hte hnew
          go_wp2
          go_ret
          exact ⟨by first | rfl | simp, uh HC5⟩
end
end Go.Proofs.YtglcaejddckleaaGreatDoor
