import Derived.Test.YtglcaejddckleaaGreatDoorFC
import Derived.Test.YtglcaejddckleaaGreatDoorFA
import Derived.Deep.RegionHeld3
import Derived.Test.YtglcaejddckleaaGreatDoorFB
set_option linter.unusedVariables false
namespace Go.Proofs.YtglcaejddckleaaGreatDoor
section
open Go.RowKit
theorem DMut.putLs {w : World} {c o B g cp : Nat} {v1 v2 : Value} {d : Dc} (h : DMut w c o B (.slice (some ⟨g, 0, none⟩) d.n cp) v1 v2 d) {i : Nat} (hi : i < d.n) (a : Nat) (us : List Value) (p : Pr) (ha : a + us.length ≤ 11) (hp : ∀ j, (prL p)[j]? = if a ≤ j ∧ j < a + us.length then us[j - a]? else (prL (d.L i))[j]?) :
  DMut (setW g w (i * 11 + a) us) c o B (.slice (some ⟨g, 0, none⟩) d.n cp) v1 v2 { d with L := upd d.L i p } ∧ Stp c o (.slice (some ⟨g, 0, none⟩) d.n cp) v1 v2 w (.slice (some ⟨g, 0, none⟩) d.n cp) v1 v2 (setW g w (i * 11 + a) us) := by
 obtain ⟨s1, s2, s3, s4⟩ := setW_size (g := g) us w (i * 11 + a)
 have hc : c ≠ g := fun e => h.nc (.inl (by rw [e]; rfl))
 have eb := setW_other (g := g) us w (i * 11 + a)
 have ec : ∀ q, (setW g w (i * 11 + a) us).cell? ⟨c, q, none⟩ = w.cell? ⟨c, q, none⟩ := fun q => World.cell?_of_block (eb c hc)
 have hl := own_setW (g := g) us w (i * 11 + a) _ h.log
 rw [pL_setL d.L d.n i a us p hi ha hp] at hl
 have hg : w.grownBy (setW g w (i * 11 + a) us) (some g) := ⟨s2, s3, s4, Nat.le_of_eq s1.symm, fun b _ hb => eb b (fun e => hb (by rw [e]))⟩
 have ki := kept_ne h.ints hg (fun b e => by cases e; exact own_apart h.log h.ints rfl)
 have kx := kept_ne h.index hg (fun b e => by cases e; exact own_apart h.log h.index rfl)
 exact ⟨⟨by rw [s1]; exact h.lt, (ec _).trans h.c0, (ec _).trans h.c1, (ec _).trans h.c2, (ec _).trans h.c3, (ec _).trans h.c4, (ec _).trans h.c5, fun q => (World.frozen?_of_block (eb c hc)).trans (h.fz q), hl, ki, kx, h.ap, h.nc, by rw [s1]; exact h.base⟩, ⟨s2, s3, s4, Nat.le_of_eq s1.symm, fun b _ _ ho => eb b (fun e => ho (.inl (by rw [e]; rfl))), fun q _ => ec q, fun b e => .inl e⟩⟩
theorem DMut.kill {w : World} {c o B g cp : Nat} {v1 v2 : Value} {d : Dc} (h : DMut w c o B (.slice (some ⟨g, 0, none⟩) d.n cp) v1 v2 d) {i : Nat} (hi : i < d.n) :
  DMut (setW g w (i * 11 + 0) (prL default)) c o B (.slice (some ⟨g, 0, none⟩) d.n cp) v1 v2 { d with L := upd d.L i default } ∧ Stp c o (.slice (some ⟨g, 0, none⟩) d.n cp) v1 v2 w (.slice (some ⟨g, 0, none⟩) d.n cp) v1 v2 (setW g w (i * 11 + 0) (prL default)) :=
 h.putLs hi 0 (prL default) default (by simp [prL]) (fun j => by
  by_cases e : j < 11
  ·rw [if_pos (by simp [prL]; omega), Nat.sub_zero]
  ·rw [List.getElem?_eq_none (by simp [prL]; omega), if_neg (by simp [prL]; omega), List.getElem?_eq_none (by simp [prL]; omega)])
abbrev vL (v : Vl) : List Value := [.int .i64 v.kind, .int .i64 v.num, .float .f64 v.flt, .string v.str, .int .i64 v.ref]
theorem DMut.putV {w : World} {c o B g cp : Nat} {v1 v2 : Value} {d : Dc} (h : DMut w c o B (.slice (some ⟨g, 0, none⟩) d.n cp) v1 v2 d) {i : Nat} (hi : i < d.n) (v : Vl) :
  DMut (setW g w (i * 11 + 5) (vL v)) c o B (.slice (some ⟨g, 0, none⟩) d.n cp) v1 v2 (setV d i v) ∧ Stp c o (.slice (some ⟨g, 0, none⟩) d.n cp) v1 v2 w (.slice (some ⟨g, 0, none⟩) d.n cp) v1 v2 (setW g w (i * 11 + 5) (vL v)) :=
 h.putLs hi 5 (vL v) ⟨(d.L i).key, v, (d.L i).turn⟩ (by simp) (fun j => by
  match j with
  | 0 | 1 | 2 | 3 | 4 | 5 | 6 | 7 | 8 | 9 | 10 => rfl
  | n + 11 => rw [if_neg (by simp), List.getElem?_eq_none (by simp [prL]), List.getElem?_eq_none (by simp [prL])])
end
section
open Go.RowKit
attribute [local go_sem] run_store_float run_equalIn_float
set_option maxRecDepth 100000 in
set_option maxHeartbeats 8000000 in
theorem l1go_any (hf : Vl → Nat) (K : Vl → Prop) (KL : KeyLaw K hf) (c o B : Nat) (v0 v1 v2 : Value) (d : Dc) (p : Nat) (w : World) (hM : DMut w c o B v0 v1 v2 d) (hS : Small d) (hI : Inv0 K hf d) (hN : Next d) (hh : ∀ v, K v → HsS v (hf v)) (hp : p < d.n) (hpt : (d.L p).turn ≠ 0) :
  Calls Tryz.prog 104 #[Pc c o, .int .i64 (p : Int)] w fun e w' => ((∃ u, e = .returned u) ∧ ∃ u0 u1 u2, DMut w' c o B u0 u1 u2 (goD hf d p) ∧ Stp c o v0 v1 v2 w u0 u1 u2 w') := by
 obtain ⟨g, cp, rfl, hBg, hgl, hcp, hpc, hfz⟩ := hM.log.form (by omega)
 obtain ⟨p0, p1, p2, p3, p4, _, _, _, _, _, _⟩ := hpc p hp
 have hn := hS.n
 have hm := hS.m
 have hlv5 := hI.le
 have hlv0 : 0 ≤ d.live := by have := hI.log.cnt; omega
 have hgc : g ≠ c := fun e => hM.nc (.inl (by rw [← e]; rfl))
 obtain ⟨k, hk⟩ : ∃ k, k = (d.L p).key := ⟨_, rfl⟩
 rw [← hk] at p0 p1 p2 p3 p4
 have hK : K k := by rw [hk]; exact hI.keys p hp hpt
 obtain ⟨W, hW⟩ : ∃ W, W = w.alloc (.cells #[.int .i64 k.kind, .int .i64 k.num, .float .f64 k.flt, .string k.str, .int .i64 k.ref] 30) := ⟨_, rfl⟩
 have hBW : Below w.heap.size w W := by rw [hW]; exact (Below.refl _ _).alloc (Nat.le_refl _) _
 have bk : BoxD W c (.slice (some ⟨g, 0, none⟩) d.n cp) v1 v2 w.heap.size k := ⟨⟨by rw [hW]; simp, by rw [hW]; simp [go_sem], by rw [hW]; simp [go_sem], by rw [hW]; simp [go_sem], by rw [hW]; simp [go_sem], by rw [hW]; simp [go_sem]⟩, fun e => by have := hM.lt; omega, fun e => by have := (hM.own3 e).2; omega⟩
 have c0 := hM.c0
 have hlt := hM.lt
 have HMW := uy (hM.below hBW)
 have HSW : Hid (Stp c o (.slice (some ⟨g, 0, none⟩) d.n cp) v1 v2 w (.slice (some ⟨g, 0, none⟩) d.n cp) v1 v2 W) := uy (Stp.of_below hBW hM.lt)
 have HBK := uy bk
 have HS := uy hS
 have HI := uy hI
 have HN := uy hN
 have HH := uy hh
 have HKL := uy KL
 have HK := uy hK
 have HPT := uy hpt
 obtain ⟨ia, ic, e1, hIA⟩ := (uh HMW).ints.at
 obtain ⟨xa, xc, e2, hXA⟩ := (uh HMW).index.at
 have HF1 : Hid (0 < d.m → ∃ g cp, v1 = .slice (some ⟨g, 0, none⟩) d.m cp) := uy (fun h => by obtain ⟨g, cp, h, _⟩ := (uh HMW).ints.form h; exact ⟨g, cp, h⟩)
 have HF2 : Hid (0 < d.x → ∃ g cp, v2 = .slice (some ⟨g, 0, none⟩) d.x cp) := uy (fun h => by obtain ⟨g, cp, h, _⟩ := (uh HMW).index.form h; exact ⟨g, cp, h⟩)
 have HPW : Hid (DPtr W c o (some ⟨g, 0, none⟩) cp ia ic xa xc d) := uy ⟨(uh HMW).lt, (uh HMW).c0, by rw [(uh HMW).c1, e1], by rw [(uh HMW).c2, e2], (uh HMW).c3, (uh HMW).c4, (uh HMW).c5, by obtain ⟨a, cp, e, h⟩ := (uh HMW).log.at; cases e; exact h, hIA, hXA⟩
 subst e1 e2
 have HKK := uy hk
 clear hM hBW bk hS hI hN hh KL hK hpt hIA hXA hpc hfz hk
 go_enter Tryz.func104, Tryz.ntmps104
 go_wp2_with fail
 rw [← hW]
 clear hW p0 p1 p2 p3 p4 c0 hlt
 obtain ⟨bl, k0, k1, k2, k3, k4⟩ := (uh HBK).box
 refine (l1small_any c o (some ⟨g, 0, none⟩) cp ia ic xa xc d k _ (uh HPW) (uh HS)).mono ?_
 rintro e w1 ⟨rfl, hb1⟩
 have hstp1 : Stp c o (.slice (some ⟨g, 0, none⟩) d.n cp) (.slice ia d.m ic) (.slice xa d.x xc) W (.slice (some ⟨g, 0, none⟩) d.n cp) (.slice ia d.m ic) (.slice xa d.x xc) w1 := Stp.of_below hb1 (uh HMW).lt
 have HM1 := uy ((uh HMW).below hb1)
 have HS1 := uy ((uh HSW).trans hstp1)
 have HBK1 := uy ((uh HBK).step hstp1)
 have HP1 := uy ((uh HPW).below hb1)
 clear hb1 hstp1 HMW HSW HBK HPW bl k0 k1 k2 k3 k4
 obtain ⟨bl, k0, k1, k2, k3, k4⟩ := (uh HBK1).box
 have hlt := (uh HM1).lt
 have c1 := (uh HM1).c1
 have c2 := (uh HM1).c2
 by_cases hs : smallK d.m k
 ·rw [tells_yes hs]
  have HR : Hid (goC hf d p = goSmall d p) := uy (goC_small (by rw [← uh HKK]; exact hs))
  obtain ⟨s1, s2, s3⟩ := hs
  obtain ⟨q, hq⟩ : ∃ q : Nat, k.num = (q : Int) + 1 := ⟨(k.num - 1).toNat, by omega⟩
  have hqm : q < d.m := by omega
  have hqq : ((d.L p).key.num - 1).toNat = q := by rw [← uh HKK, hq]; omega
  obtain ⟨gi, cpi, eg⟩ := uh HF1 (by omega)
  cases eg
  obtain ⟨g', cp', eg', hBi, hil, hcpi, hcs, hfz⟩ := (uh HM1).ints.form (by omega)
  cases eg'
  have e0 := hcs q hqm
  have f0 := hfz q
  have hic : gi ≠ c := fun e => (uh HM1).nc (.inr (.inl (by rw [← e]; rfl)))
  have hwq : IntKind.i64.wrap (q : Int) = q := by rw [IntKind.wrap_i64]; omega
  have hd2 := (uh HM1).putI hqm 0
  have hst2 : Stp c o (.slice (some ⟨g, 0, none⟩) d.n cp) (.slice (some ⟨gi, 0, none⟩) d.m ic) (.slice xa d.x xc) w1 (.slice (some ⟨g, 0, none⟩) d.n cp) (.slice (some ⟨gi, 0, none⟩) d.m ic) (.slice xa d.x xc) (w1.setCell ⟨gi, q, none⟩ (.int .i64 0)) := stp_row (q := q) (.int .i64 0) (.inr (.inl rfl)) hic
  obtain ⟨W2, hW2⟩ : ∃ W2, W2 = (w1.setCell ⟨gi, q, none⟩ (.int .i64 0)).drew := ⟨_, rfl⟩
  have hM2 : DMut W2 c o B (.slice (some ⟨g, 0, none⟩) d.n cp) (.slice (some ⟨gi, 0, none⟩) d.m ic) (.slice xa d.x xc) { d with I := upd d.I q 0 } := by rw [hW2]; exact hd2.below (Below.refl _ _).drew
  have hs2 := (uh HS1).trans (hst2.trans (Stp.of_below (Below.refl _ _).drew (by simpa using hlt)))
  rw [← hW2] at hs2
  have HM2 := uy hM2
  have HS2 := uy hs2
  rw [hq] at k1
  clear hd2 hst2 hM2 hs2 hcs hfz hq s1 s2 s3 HF1 HF2 HP1 HM1 HS1
  go_wp2_with fail
  go_region
  rw [← hW2]
  clear hW2 e0 f0 c1 c2 hlt bl k0 k1 k2 k3 k4
  have c1 := (uh HM2).c1
  have hlt := (uh HM2).lt
  obtain ⟨g', cp', eg', hBi, hil, hcpi, hcs, hfz⟩ := (uh HM2).ints.form (by show 0 < d.m; omega)
  cases eg'
  have hcs : ∀ i, i < d.m → W2.cell? ⟨gi, i, none⟩ = some (.int .i64 (upd d.I q 0 i)) := hcs
  have HCS := uy hcs
  clear hcs hfz
  go_wp2_with fail
  go_loopw [5] (fun a wr => ∃ j : Nat, a = .int .i64 (j : Int) ∧ j ≤ d.m ∧ shrink (upd d.I q 0) d.m = shrink (upd d.I q 0) j ∧ wr = W2) (fun a _ => (intOf a).toNat)
  case atStart => exact ⟨d.m, rfl, Nat.le_refl _, rfl, rfl⟩
  case round =>
   obtain ⟨j, rfl, hj, hsh, rfl⟩ := hrel
   by_cases hgo : ∃ i, j = i + 1 ∧ upd d.I q 0 i = 0
   ·obtain ⟨i, rfl, hz⟩ := hgo
    have e0 := uh HCS i (by omega)
    rw [hz] at e0
    have HSH := uy (hsh.trans (shrink_zero hz))
    have hpos : decide ((0 : Int) < ((i + 1 : Nat) : Int)) = true := by simp
    clear hz hsh
    go_wp2
    go_roundw
    case rel => exact ⟨i, by go_num, by omega, uh HSH, by first | rfl | trivial⟩
    case measure => simp [intOf]
   ·have HSH : Hid (shrink (upd d.I q 0) d.m = j) := uy (by
     rw [hsh]
     cases j with
     | zero => rfl
     | succ i => exact shrink_stop (fun e => hgo ⟨i, rfl, e⟩))
    have HTT : Hid (∀ (Q : Prop), (j = 0 → Q) → (∀ i, j = i + 1 → upd d.I q 0 i ≠ 0 → Q) → Q) := uy (fun Q h1 h2 => by
     cases j with
     | zero => exact h1 rfl
     | succ i => exact h2 i rfl (fun e => hgo ⟨i, rfl, e⟩))
    clear hsh hgo
    have hd3 := DMut.setInts (uh HM2) (u := .slice (some ⟨gi, 0, none⟩) j ic) (IOwn.cut (uh HM2).ints (n := j) hj) (fun e => hic (ownB e)) (fun q' e e' => (uh HM2).ap q' (by rw [← ownB e]; rfl) e')
    have hs3 := (uh HS2).trans (stp_field (c := c) (o := o) (v0 := .slice (some ⟨g, 0, none⟩) d.n cp) (v1 := .slice (some ⟨gi, 0, none⟩) d.m ic) (v2 := .slice xa d.x xc) (u0 := .slice (some ⟨g, 0, none⟩) d.n cp) (u1 := .slice (some ⟨gi, 0, none⟩) j ic) (u2 := .slice xa d.x xc) (w := wr) (q := o + 1) (.slice (some ⟨gi, 0, none⟩) j ic) (by omega) (fun b e => .inl (e.elim .inl (fun e => e.elim (fun e => .inr (.inl (by rw [← ownB e]; rfl))) (fun e => .inr (.inr e))))))
    have HMt := uy hd3
    have HSt := uy hs3
    have HRt : Hid (goC hf d p = { d with I := upd d.I q 0, m := j, L := upd d.L p default, live := d.live - 1 }) := uy (by
     rw [uh HR]
     unfold goSmall
     rw [hqq, uh HSH]
     rfl)
    have HMM : Hid ((goC hf d p).m ≤ d.m) := uy (by rw [uh HRt]; exact hj)
    have f1w := (uh HM2).fz (o + 1)
    clear hd3 hs3
    refine uh HTT _ (fun hj0 => ?_) (fun i hji hz => ?_)
    ·clear HTT HSH HCS
     subst hj0
     obtain ⟨g', cp', eg', hBg', hgl', hcp', hpc, hpf⟩ := (uh HMt).log.form (by show 0 < d.n; omega)
     cases eg'
     obtain ⟨y0, y1, y2, y3, y4, y5, y6, y7, y8, y9, y10⟩ := hpc p hp
     have z0 := hpf (p * 11)
     have z1 := hpf (p * 11 + 1)
     have z2 := hpf (p * 11 + 2)
     have z3 := hpf (p * 11 + 3)
     have z4 := hpf (p * 11 + 4)
     have z5 := hpf (p * 11 + 5)
     have z6 := hpf (p * 11 + 6)
     have z7 := hpf (p * 11 + 7)
     have z8 := hpf (p * 11 + 8)
     have z9 := hpf (p * 11 + 9)
     have z10 := hpf (p * 11 + 10)
     have c0 : (wr.setCell ⟨c, o + 1, none⟩ (.slice (some ⟨gi, 0, none⟩) 0 ic)).cell? ⟨c, o, none⟩ = some (.slice (some ⟨g, 0, none⟩) d.n cp) := (uh HMt).c0
     have c4 : (wr.setCell ⟨c, o + 1, none⟩ (.slice (some ⟨gi, 0, none⟩) 0 ic)).cell? ⟨c, o + 4, none⟩ = some (.int .i64 d.live) := (uh HMt).c4
     have f4 := (uh HMt).fz (o + 4)
     have hlt := (uh HMt).lt
     obtain ⟨hk1, hk2⟩ := DMut.kill (d := { d with I := upd d.I q 0, m := 0 }) (uh HMt) (i := p) hp
     have hk3 := DMut.setLive hk1 (d.live - 1)
     have hk4 := ((uh HSt).trans hk2).trans (stp_field (c := c) (o := o) (v0 := .slice (some ⟨g, 0, none⟩) d.n cp) (q := o + 4) (.int .i64 (d.live - 1)) (by omega) (fun b e => .inl e))
     have hk3' : DMut ((setW g (wr.setCell ⟨c, o + 1, none⟩ (.slice (some ⟨gi, 0, none⟩) 0 ic)) (p * 11 + 0) (prL default)).setCell ⟨c, o + 4, none⟩ (.int .i64 (d.live - 1))) c o B (.slice (some ⟨g, 0, none⟩) d.n cp) (.slice (some ⟨gi, 0, none⟩) 0 ic) (.slice xa d.x xc) (goC hf d p) := by rw [uh HRt]; exact hk3
     obtain ⟨W9, hW9⟩ : ∃ W9, W9 = ((((((((((((wr.setCell ⟨c, o + 1, none⟩ (.slice (some ⟨gi, 0, none⟩) 0 ic)).setCell ⟨g, p * 11, none⟩ (.int .i64 0)).setCell ⟨g, p * 11 + 1, none⟩ (.int .i64 0)).setCell ⟨g, p * 11 + 2, none⟩ (.float .f64 0)).setCell ⟨g, p * 11 + 3, none⟩ (.string ⟨#[]⟩)).setCell ⟨g, p * 11 + 4, none⟩ (.int .i64 0)).setCell ⟨g, p * 11 + 5, none⟩ (.int .i64 0)).setCell ⟨g, p * 11 + 6, none⟩ (.int .i64 0)).setCell ⟨g, p * 11 + 7, none⟩ (.float .f64 0)).setCell ⟨g, p * 11 + 8, none⟩ (.string ⟨#[]⟩)).setCell ⟨g, p * 11 + 9, none⟩ (.int .i64 0)).setCell ⟨g, p * 11 + 10, none⟩ (.int .i64 0)).setCell ⟨c, o + 4, none⟩ (.int .i64 (d.live - 1)) := ⟨_, rfl⟩
     have HM9 : Hid (DMut W9 c o B (.slice (some ⟨g, 0, none⟩) d.n cp) (.slice (some ⟨gi, 0, none⟩) 0 ic) (.slice xa d.x xc) (goC hf d p)) := uy (by rw [hW9]; exact hk3')
     have HS9 : Hid (Stp c o (.slice (some ⟨g, 0, none⟩) d.n cp) (.slice (some ⟨gi, 0, none⟩) d.m ic) (.slice xa d.x xc) w (.slice (some ⟨g, 0, none⟩) d.n cp) (.slice (some ⟨gi, 0, none⟩) 0 ic) (.slice xa d.x xc) W9) := uy (by rw [hW9]; exact hk4)
     have hcore := (goC_inv (uh HKL) (uh HI) (uh HN) hp (uh HPT)).1
     have HCO := uy hcore.core
     have hx9 := hcore.sz
     have hn9 := (goC_inv (uh HKL) (uh HI) (uh HN) hp (uh HPT)).2.2.1
     have hm9 : (goC hf d p).m ≤ d.m := uh HMM
     have HSM : Hid (Small (goC hf d p)) := uy ⟨by rw [hn9]; exact hn, by omega, by unfold SizeX at hx9; omega⟩
     clear hpc hpf hk1 hk2 hk3 hk3' hk4 hcore hx9 hn9 hm9 HRt HSt
     go_wp2_with fail
     rw [← hW9]
     clear hW9 y0 y1 y2 y3 y4 y5 y6 y7 y8 y9 y10 z0 z1 z2 z3 z4 z5 z6 z7 z8 z9 z10 c0 c4 f4
     refine (l1compact_any hf K c o B _ _ _ (goC hf d p) _ (uh HM9) (uh HSM) (uh HCO) (uh HH)).mono ?_
     rintro e w10 ⟨⟨u, rfl⟩, t0, t2, hM10, hs10⟩
     have HM10 := uy hM10
     have HS10 := uy ((uh HS9).trans hs10)
     clear hM10 hs10
     go_wp2
     go_end0
     exact ⟨⟨_, rfl⟩, _, _, _, uh HM10, uh HS10⟩
    ·have e0 := uh HCS i (by omega)
     have hz' : (upd d.I q 0 i == 0) = false := by simp [hz]
     have hposn : decide ((0 : Int) < (j : Int)) = true := by simp; omega
     have hwi : IntKind.i64.wrap ((j : Int) - 1) = (i : Int) := by rw [IntKind.wrap_i64]; omega
     have hji' : (j : Int) - 1 = (i : Int) := by omega
     clear HTT HSH HCS hji hz
     obtain ⟨g', cp', eg', hBg', hgl', hcp', hpc, hpf⟩ := (uh HMt).log.form (by show 0 < d.n; omega)
     cases eg'
     obtain ⟨y0, y1, y2, y3, y4, y5, y6, y7, y8, y9, y10⟩ := hpc p hp
     have z0 := hpf (p * 11)
     have z1 := hpf (p * 11 + 1)
     have z2 := hpf (p * 11 + 2)
     have z3 := hpf (p * 11 + 3)
     have z4 := hpf (p * 11 + 4)
     have z5 := hpf (p * 11 + 5)
     have z6 := hpf (p * 11 + 6)
     have z7 := hpf (p * 11 + 7)
     have z8 := hpf (p * 11 + 8)
     have z9 := hpf (p * 11 + 9)
     have z10 := hpf (p * 11 + 10)
     have c0 : (wr.setCell ⟨c, o + 1, none⟩ (.slice (some ⟨gi, 0, none⟩) j ic)).cell? ⟨c, o, none⟩ = some (.slice (some ⟨g, 0, none⟩) d.n cp) := (uh HMt).c0
     have c4 : (wr.setCell ⟨c, o + 1, none⟩ (.slice (some ⟨gi, 0, none⟩) j ic)).cell? ⟨c, o + 4, none⟩ = some (.int .i64 d.live) := (uh HMt).c4
     have f4 := (uh HMt).fz (o + 4)
     have hlt := (uh HMt).lt
     obtain ⟨hk1, hk2⟩ := DMut.kill (d := { d with I := upd d.I q 0, m := j }) (uh HMt) (i := p) hp
     have hk3 := DMut.setLive hk1 (d.live - 1)
     have hk4 := ((uh HSt).trans hk2).trans (stp_field (c := c) (o := o) (v0 := .slice (some ⟨g, 0, none⟩) d.n cp) (q := o + 4) (.int .i64 (d.live - 1)) (by omega) (fun b e => .inl e))
     have hk3' : DMut ((setW g (wr.setCell ⟨c, o + 1, none⟩ (.slice (some ⟨gi, 0, none⟩) j ic)) (p * 11 + 0) (prL default)).setCell ⟨c, o + 4, none⟩ (.int .i64 (d.live - 1))) c o B (.slice (some ⟨g, 0, none⟩) d.n cp) (.slice (some ⟨gi, 0, none⟩) j ic) (.slice xa d.x xc) (goC hf d p) := by rw [uh HRt]; exact hk3
     obtain ⟨W9, hW9⟩ : ∃ W9, W9 = ((((((((((((wr.setCell ⟨c, o + 1, none⟩ (.slice (some ⟨gi, 0, none⟩) j ic)).setCell ⟨g, p * 11, none⟩ (.int .i64 0)).setCell ⟨g, p * 11 + 1, none⟩ (.int .i64 0)).setCell ⟨g, p * 11 + 2, none⟩ (.float .f64 0)).setCell ⟨g, p * 11 + 3, none⟩ (.string ⟨#[]⟩)).setCell ⟨g, p * 11 + 4, none⟩ (.int .i64 0)).setCell ⟨g, p * 11 + 5, none⟩ (.int .i64 0)).setCell ⟨g, p * 11 + 6, none⟩ (.int .i64 0)).setCell ⟨g, p * 11 + 7, none⟩ (.float .f64 0)).setCell ⟨g, p * 11 + 8, none⟩ (.string ⟨#[]⟩)).setCell ⟨g, p * 11 + 9, none⟩ (.int .i64 0)).setCell ⟨g, p * 11 + 10, none⟩ (.int .i64 0)).setCell ⟨c, o + 4, none⟩ (.int .i64 (d.live - 1)) := ⟨_, rfl⟩
     have HM9 : Hid (DMut W9 c o B (.slice (some ⟨g, 0, none⟩) d.n cp) (.slice (some ⟨gi, 0, none⟩) j ic) (.slice xa d.x xc) (goC hf d p)) := uy (by rw [hW9]; exact hk3')
     have HS9 : Hid (Stp c o (.slice (some ⟨g, 0, none⟩) d.n cp) (.slice (some ⟨gi, 0, none⟩) d.m ic) (.slice xa d.x xc) w (.slice (some ⟨g, 0, none⟩) d.n cp) (.slice (some ⟨gi, 0, none⟩) j ic) (.slice xa d.x xc) W9) := uy (by rw [hW9]; exact hk4)
     have hcore := (goC_inv (uh HKL) (uh HI) (uh HN) hp (uh HPT)).1
     have HCO := uy hcore.core
     have hx9 := hcore.sz
     have hn9 := (goC_inv (uh HKL) (uh HI) (uh HN) hp (uh HPT)).2.2.1
     have hm9 : (goC hf d p).m ≤ d.m := uh HMM
     have HSM : Hid (Small (goC hf d p)) := uy ⟨by rw [hn9]; exact hn, by omega, by unfold SizeX at hx9; omega⟩
     clear hpc hpf hk1 hk2 hk3 hk3' hk4 hcore hx9 hn9 hm9 HRt HSt
     go_wp2_with fail
     rw [← hW9]
     clear hW9 y0 y1 y2 y3 y4 y5 y6 y7 y8 y9 y10 z0 z1 z2 z3 z4 z5 z6 z7 z8 z9 z10 c0 c4 f4
     refine (l1compact_any hf K c o B _ _ _ (goC hf d p) _ (uh HM9) (uh HSM) (uh HCO) (uh HH)).mono ?_
     rintro e w10 ⟨⟨u, rfl⟩, t0, t2, hM10, hs10⟩
     have HM10 := uy hM10
     have HS10 := uy ((uh HS9).trans hs10)
     clear hM10 hs10
     go_wp2
     go_end0
     exact ⟨⟨_, rfl⟩, _, _, _, uh HM10, uh HS10⟩
 ·rw [tells_no hs]
  obtain ⟨s, hs1, hs2, hs3⟩ := (uh HI).found (uh HKL) (uh HK) ⟨hp, uh HPT, by rw [← uh HKK]; exact hs⟩ (by rw [← uh HKK]; exact (uh HKL).refl _ (uh HK))
  have HR : Hid (goC hf d p = goSlot d p s) := uy (goC_slot (by rw [← uh HKK]; exact hs) (by rw [← uh HKK]; exact hs3))
  obtain ⟨gx, cpx, eg⟩ := uh HF2 (by omega)
  cases eg
  obtain ⟨g', cp', eg', hBx, hxl, hcpx, hcs, hfz⟩ := (uh HM1).index.form (by omega)
  cases eg'
  have e0 := hcs s hs1
  have f0 := hfz s
  have hxc : gx ≠ c := fun e => (uh HM1).nc (.inr (.inr (by rw [← e]; rfl)))
  have hcx : c ≠ gx := fun e => hxc e.symm
  have hxb : w.heap.size ≠ gx := fun e => (uh HBK1).no (.inr (.inr (by rw [e]; rfl)))
  have hbx : gx ≠ w.heap.size := fun e => hxb e.symm
  have HCALL : Hid (∀ W : World, DPtr W c o (some ⟨g, 0, none⟩) cp ia ic (some ⟨gx, 0, none⟩) xc d → Calls Tryz.prog 114 #[Pc c o, V k.kind k.num k.flt k.str k.ref] W fun e w' => e = .returned (.int .i64 (s : Int)) ∧ Below W.heap.size W w') := uy (fun W hP => by
   have h := l1slot_any c o (some ⟨g, 0, none⟩) cp ia ic (some ⟨gx, 0, none⟩) xc d k (hf k) W hP (uh HS) (uh HI).d4 (uh HH k (uh HK))
   rw [hs3] at h
   exact h)
  have HM1d : Hid (DMut w1.drew c o B (.slice (some ⟨g, 0, none⟩) d.n cp) (.slice ia d.m ic) (.slice (some ⟨gx, 0, none⟩) d.x xc) d) := uy ((uh HM1).below (Below.refl _ _).drew)
  have HS1d := uy ((uh HS1).trans (Stp.of_below (Below.refl _ _).drew hlt))
  have HP1d := uy ((uh HP1).below (Below.refl _ _).drew)
  have c2d : w1.drew.cell? ⟨c, o + 2, none⟩ = some (.slice (some ⟨gx, 0, none⟩) d.x xc) := c2
  have k0d : w1.drew.cell? ⟨w.heap.size, 0, none⟩ = some (.int .i64 k.kind) := k0
  have k1d : w1.drew.cell? ⟨w.heap.size, 1, none⟩ = some (.int .i64 k.num) := k1
  have k2d : w1.drew.cell? ⟨w.heap.size, 2, none⟩ = some (.float .f64 k.flt) := k2
  have k3d : w1.drew.cell? ⟨w.heap.size, 3, none⟩ = some (.string k.str) := k3
  have k4d : w1.drew.cell? ⟨w.heap.size, 4, none⟩ = some (.int .i64 k.ref) := k4
  have hltd : c < w1.drew.heap.size := hlt
  have bld : w.heap.size < w1.drew.heap.size := bl
  have hxld : gx < w1.drew.heap.size := hxl
  have HE0 := uy (show w1.drew.cell? ⟨gx, s, none⟩ = some (.int .i64 (d.X s)) from e0)
  have HF0 := uy (show w1.drew.frozen? ⟨gx, s, none⟩ = false from f0)
  clear hs hs3 hcs hfz c1 c2 k0 k1 k2 k3 k4 hlt bl hxl e0 f0 HF1 HF2 HM1 HS1 HP1 HBK1
  go_wp2_with fail
  go_region_held3 (fun w' => w'.cell? ⟨c, o + 2, none⟩ = some (.slice (some ⟨gx, 0, none⟩) d.x xc) ∧ w'.cell? ⟨w.heap.size, 0, none⟩ = some (.int .i64 k.kind) ∧ w'.cell? ⟨w.heap.size, 1, none⟩ = some (.int .i64 k.num) ∧ w'.cell? ⟨w.heap.size, 2, none⟩ = some (.float .f64 k.flt) ∧ w'.cell? ⟨w.heap.size, 3, none⟩ = some (.string k.str) ∧ w'.cell? ⟨w.heap.size, 4, none⟩ = some (.int .i64 k.ref)) (first | (with_reducible exact ⟨by assumption, by assumption, by assumption, by assumption, by assumption, by assumption⟩) | (exact ⟨(cell_set_block hxc).trans c2e, (cell_set_block hbx).trans k0e, (cell_set_block hbx).trans k1e, (cell_set_block hbx).trans k2e, (cell_set_block hbx).trans k3e, (cell_set_block hbx).trans k4e⟩) | go_keep)
   (first | (go_at_call 114; refine (uh HCALL _ (uh HP1d)).mono ?_; rintro e w2 ⟨rfl, hb2⟩; have c2e := (hb2.cell (p := ⟨c, o + 2, none⟩) hltd).trans c2d; have k0e := (hb2.cell (p := ⟨w.heap.size, 0, none⟩) bld).trans k0d; have k1e := (hb2.cell (p := ⟨w.heap.size, 1, none⟩) bld).trans k1d; have k2e := (hb2.cell (p := ⟨w.heap.size, 2, none⟩) bld).trans k2d; have k3e := (hb2.cell (p := ⟨w.heap.size, 3, none⟩) bld).trans k3d; have k4e := (hb2.cell (p := ⟨w.heap.size, 4, none⟩) bld).trans k4d; have e0 := (hb2.cell (p := ⟨gx, s, none⟩) hxld).trans (uh HE0); have f0 := (hb2.frozen (p := ⟨gx, s, none⟩) hxld).trans (uh HF0); have HM2 := uy ((uh HM1d).below hb2); have HS2 := uy ((uh HS1d).trans (Stp.of_below hb2 hltd)); clear hb2))
  have HMt := uy ((uh HM2).putX hs1 (-1))
  have HSt := uy ((uh HS2).trans (stp_row (c := c) (o := o) (v0 := .slice (some ⟨g, 0, none⟩) d.n cp) (v1 := .slice ia d.m ic) (v2 := .slice (some ⟨gx, 0, none⟩) d.x xc) (q := s) (.int .i64 (-1)) (.inr (.inr rfl)) hxc))
  have HRt : Hid (goC hf d p = { d with X := upd d.X s (-1), L := upd d.L p default, live := d.live - 1 }) := uy (by rw [uh HR]; rfl)
  have HMM : Hid ((goC hf d p).m ≤ d.m) := uy (by rw [uh HRt]; exact Nat.le_refl _)
  clear HM2 HS2 e0 f0 c2d k0d k1d k2d k3d k4d c2e k0e k1e k2e k3e k4e
  obtain ⟨g', cp', eg', hBg', hgl', hcp', hpc, hpf⟩ := (uh HMt).log.form (by show 0 < d.n; omega)
  cases eg'
  obtain ⟨y0, y1, y2, y3, y4, y5, y6, y7, y8, y9, y10⟩ := hpc p hp
  have z0 := hpf (p * 11)
  have z1 := hpf (p * 11 + 1)
  have z2 := hpf (p * 11 + 2)
  have z3 := hpf (p * 11 + 3)
  have z4 := hpf (p * 11 + 4)
  have z5 := hpf (p * 11 + 5)
  have z6 := hpf (p * 11 + 6)
  have z7 := hpf (p * 11 + 7)
  have z8 := hpf (p * 11 + 8)
  have z9 := hpf (p * 11 + 9)
  have z10 := hpf (p * 11 + 10)
  have c0 : (w2.setCell ⟨gx, s, none⟩ (.int .i64 (-1))).cell? ⟨c, o, none⟩ = some (.slice (some ⟨g, 0, none⟩) d.n cp) := (uh HMt).c0
  have c4 : (w2.setCell ⟨gx, s, none⟩ (.int .i64 (-1))).cell? ⟨c, o + 4, none⟩ = some (.int .i64 d.live) := (uh HMt).c4
  have f4 := (uh HMt).fz (o + 4)
  have hlt := (uh HMt).lt
  obtain ⟨hk1, hk2⟩ := DMut.kill (d := { d with X := upd d.X s (-1) }) (uh HMt) (i := p) hp
  have hk3 := DMut.setLive hk1 (d.live - 1)
  have hk4 := ((uh HSt).trans hk2).trans (stp_field (c := c) (o := o) (v0 := .slice (some ⟨g, 0, none⟩) d.n cp) (q := o + 4) (.int .i64 (d.live - 1)) (by omega) (fun b e => .inl e))
  have hk3' : DMut ((setW g (w2.setCell ⟨gx, s, none⟩ (.int .i64 (-1))) (p * 11 + 0) (prL default)).setCell ⟨c, o + 4, none⟩ (.int .i64 (d.live - 1))) c o B (.slice (some ⟨g, 0, none⟩) d.n cp) (.slice ia d.m ic) (.slice (some ⟨gx, 0, none⟩) d.x xc) (goC hf d p) := by rw [uh HRt]; exact hk3
  obtain ⟨W9, hW9⟩ : ∃ W9, W9 = ((((((((((((w2.setCell ⟨gx, s, none⟩ (.int .i64 (-1))).setCell ⟨g, p * 11, none⟩ (.int .i64 0)).setCell ⟨g, p * 11 + 1, none⟩ (.int .i64 0)).setCell ⟨g, p * 11 + 2, none⟩ (.float .f64 0)).setCell ⟨g, p * 11 + 3, none⟩ (.string ⟨#[]⟩)).setCell ⟨g, p * 11 + 4, none⟩ (.int .i64 0)).setCell ⟨g, p * 11 + 5, none⟩ (.int .i64 0)).setCell ⟨g, p * 11 + 6, none⟩ (.int .i64 0)).setCell ⟨g, p * 11 + 7, none⟩ (.float .f64 0)).setCell ⟨g, p * 11 + 8, none⟩ (.string ⟨#[]⟩)).setCell ⟨g, p * 11 + 9, none⟩ (.int .i64 0)).setCell ⟨g, p * 11 + 10, none⟩ (.int .i64 0)).setCell ⟨c, o + 4, none⟩ (.int .i64 (d.live - 1)) := ⟨_, rfl⟩
  have HM9 : Hid (DMut W9 c o B (.slice (some ⟨g, 0, none⟩) d.n cp) (.slice ia d.m ic) (.slice (some ⟨gx, 0, none⟩) d.x xc) (goC hf d p)) := uy (by rw [hW9]; exact hk3')
  have HS9 : Hid (Stp c o (.slice (some ⟨g, 0, none⟩) d.n cp) (.slice ia d.m ic) (.slice (some ⟨gx, 0, none⟩) d.x xc) w (.slice (some ⟨g, 0, none⟩) d.n cp) (.slice ia d.m ic) (.slice (some ⟨gx, 0, none⟩) d.x xc) W9) := uy (by rw [hW9]; exact hk4)
  have hcore := (goC_inv (uh HKL) (uh HI) (uh HN) hp (uh HPT)).1
  have HCO := uy hcore.core
  have hx9 := hcore.sz
  have hn9 := (goC_inv (uh HKL) (uh HI) (uh HN) hp (uh HPT)).2.2.1
  have hm9 : (goC hf d p).m ≤ d.m := uh HMM
  have HSM : Hid (Small (goC hf d p)) := uy ⟨by rw [hn9]; exact hn, by omega, by unfold SizeX at hx9; omega⟩
  clear hpc hpf hk1 hk2 hk3 hk3' hk4 hcore hx9 hn9 hm9 HRt HSt
  go_wp2_with fail
  rw [← hW9]
  clear hW9 y0 y1 y2 y3 y4 y5 y6 y7 y8 y9 y10 z0 z1 z2 z3 z4 z5 z6 z7 z8 z9 z10 c0 c4 f4
  refine (l1compact_any hf K c o B _ _ _ (goC hf d p) _ (uh HM9) (uh HSM) (uh HCO) (uh HH)).mono ?_
  rintro e w10 ⟨⟨u, rfl⟩, t0, t2, hM10, hs10⟩
  have HM10 := uy hM10
  have HS10 := uy ((uh HS9).trans hs10)
  clear hM10 hs10
  go_wp2
  go_end0
  exact ⟨⟨_, rfl⟩, _, _, _, uh HM10, uh HS10⟩
end
section
open Go.RowKit
attribute [local go_sem] run_store_float run_equalIn_float
set_option maxRecDepth 100000 in
set_option maxHeartbeats 8000000 in
theorem l1put_any (hf : Vl → Nat) (K : Vl → Prop) (KL : KeyLaw K hf) (c o B : Nat) (v0 v1 v2 : Value) (d : Dc) (k v : Vl) (w : World) (hM : DMut w c o B v0 v1 v2 d) (hS : Small d) (hI : Inv K hf d) (hh : ∀ v, K v → HsS v (hf v))
  (hk : K k) (hkb : keyB k = true) (hv : v.ok = true) (hmm : d.m ≤ 4000000) :
  Calls Tryz.prog 66 #[Pc c o, V k.kind k.num k.flt k.str k.ref, V v.kind v.num v.flt v.str v.ref] w fun e w' => ((∃ u, e = .returned u) ∧ ∃ u0 u1 u2, DMut w' c o B u0 u1 u2 (putD hf d k v) ∧ Stp c o v0 v1 v2 w u0 u1 u2 w') := by
 have hB0 : Below w.heap.size w ((w.alloc (.cells #[.int .i64 k.kind, .int .i64 k.num, .float .f64 k.flt, .string k.str, .int .i64 k.ref] 30)).alloc (.cells #[.int .i64 v.kind, .int .i64 v.num, .float .f64 v.flt, .string v.str, .int .i64 v.ref] 30)) := ((Below.refl _ _).alloc (Nat.le_refl _) _).alloc (by simp) _
 obtain ⟨W, hW⟩ : ∃ W, W = (w.alloc (.cells #[.int .i64 k.kind, .int .i64 k.num, .float .f64 k.flt, .string k.str, .int .i64 k.ref] 30)).alloc (.cells #[.int .i64 v.kind, .int .i64 v.num, .float .f64 v.flt, .string v.str, .int .i64 v.ref] 30) := ⟨_, rfl⟩
 rw [← hW] at hB0
 have hMW := hM.below hB0
 have bk : BoxD W c v0 v1 v2 w.heap.size k := ⟨⟨by rw [hW]; simp; omega, by rw [hW]; simp [go_sem], by rw [hW]; simp [go_sem], by rw [hW]; simp [go_sem], by rw [hW]; simp [go_sem], by rw [hW]; simp [go_sem]⟩, fun e => by have := hM.lt; omega, fun e => by have := (hM.own3 e).2; omega⟩
 have bv : BoxD W c v0 v1 v2 (w.heap.size + 1) v := ⟨⟨by rw [hW]; simp, by rw [hW]; simp [go_sem], by rw [hW]; simp [go_sem], by rw [hW]; simp [go_sem], by rw [hW]; simp [go_sem], by rw [hW]; simp [go_sem]⟩, fun e => by have := hM.lt; omega, fun e => by have := (hM.own3 e).2; omega⟩
 have hsW : Stp c o v0 v1 v2 w v0 v1 v2 W := Stp.of_below hB0 hM.lt
 obtain ⟨la, lc, ia, ic, xa, xc, e0, e1, e2, hP⟩ := hMW.ptr
 subst e0 e1 e2
 have hn := hS.n
 have hlv5 := hI.i0.le
 have hlv0 : 0 ≤ d.live := by have := hI.i0.log.cnt; omega
 have htn := hI.i0.turns
 have HPL := uy (hI.i0.place KL hk)
 have HP := uy hP
 have HM := uy hMW
 have HSW := uy hsW
 have HBK := uy bk
 have HBV := uy bv
 have HS := uy hS
 have HI := uy hI
 have HH := uy hh
 have HKL := uy KL
 have HK := uy (And.intro hk (And.intro hkb hv))
 clear hM hMW bk bv hsW hS hI hh KL hk hkb hv hP hB0
 go_enter Tryz.func66, Tryz.ntmps66
 go_wp2_with fail
 rw [← hW]
 clear hW
 obtain ⟨bl, k0, k1, k2, k3, k4⟩ := (uh HBK).box
 refine (l1place_any c o la lc ia ic xa xc d k (hf k) _ (uh HP) (uh HS) (uh HI).i0.d3 (uh HI).i0.d4 (uh HH k (uh HK).1)).mono ?_
 rintro e w1 ⟨rfl, hb1⟩
 have hst1 : Stp c o (.slice la d.n lc) (.slice ia d.m ic) (.slice xa d.x xc) W (.slice la d.n lc) (.slice ia d.m ic) (.slice xa d.x xc) w1 := Stp.of_below hb1 (uh HM).lt
 have HM1 := uy ((uh HM).below hb1)
 have HS1 := uy ((uh HSW).trans hst1)
 have HBK1 := uy ((uh HBK).step hst1)
 have HBV1 := uy ((uh HBV).step hst1)
 clear hb1 hst1 HM HSW HBK HBV HP bl k0 k1 k2 k3 k4
 obtain ⟨bl, k0, k1, k2, k3, k4⟩ := (uh HBK1).box
 obtain ⟨bl', q0, q1, q2, q3, q4⟩ := (uh HBV1).box
 have hlt := (uh HM1).lt
 have c0 := (uh HM1).c0
 have c4 := (uh HM1).c4
 have c5 := (uh HM1).c5
 rcases uh HPL with ⟨i, hi, hti, hli, hpl⟩ | ⟨hno, hpl⟩
 ·rw [hpl]
  have HTI := uy hti
  by_cases hv0 : v.kind = 0
  ·have HR : Hid (putD hf d k v = goD hf d i) := uy (by rw [putD_go (by omega) hv0, hpl]; rfl)
   have hv0' : (v.kind == 0) = true := by simp [hv0]
   clear hv0 hpl hli hti HPL
   go_wp2_with fail
   refine (l1go_any hf K (uh HKL) c o B _ _ _ d i _ (uh HM1) (uh HS) (uh HI).i0 (uh HI).next (uh HH) hi (uh HTI)).mono ?_
   rintro e w2 ⟨⟨u, rfl⟩, t0, t1, t2, hM2, hs2⟩
   have HM2 := uy hM2
   have HS2 := uy ((uh HS1).trans hs2)
   clear hM2 hs2
   go_wp2
   go_end0
   exact ⟨⟨_, rfl⟩, _, _, _, by rw [uh HR]; exact uh HM2, uh HS2⟩
  ·have HR : Hid (putD hf d k v = setV d i v) := uy (by rw [putD_set (by omega) hv0, hpl]; rfl)
   have hv0' : (v.kind == 0) = false := by simp [hv0]
   obtain ⟨g, cp, eg, hBg, hgl, hcp, hpc, hpf⟩ := (uh HM1).log.form (by omega)
   cases eg
   obtain ⟨_, _, _, _, _, y5, y6, y7, y8, y9, _⟩ := hpc i hi
   have z5 := hpf (i * 11 + 5)
   have z6 := hpf (i * 11 + 6)
   have z7 := hpf (i * 11 + 7)
   have z8 := hpf (i * 11 + 8)
   have z9 := hpf (i * 11 + 9)
   have hgc : g ≠ c := fun e => (uh HM1).nc (.inl (by rw [← e]; rfl))
   have hgb : g ≠ w.heap.size + 1 := fun e => (uh HBV1).no (.inl (by rw [← e]; rfl))
   have hbg : w.heap.size + 1 ≠ g := fun e => hgb e.symm
   obtain ⟨h1, h2⟩ := (uh HM1).putV hi v
   have HMV := uy (h1.below (Below.refl _ _).drew)
   have HSV := uy (((uh HS1).trans h2).trans (Stp.of_below (Below.refl _ _).drew h1.lt))
   clear hv0 hpl hli hti HPL hpc hpf h1 h2
   go_wp2_with fail
   go_region
   go_wp2
   go_end0
   exact ⟨⟨_, rfl⟩, _, _, _, by rw [uh HR]; exact uh HMV, uh HSV⟩
 ·rw [hpl]
  have HNO := uy hno
  have hneg : ¬ 0 ≤ placeI d k (hf k) := by omega
  have HNEG := uy hneg
  clear hpl hno hneg HPL
  by_cases hv0 : v.kind = 0
  ·have HR : Hid (putD hf d k v = d) := uy (putD_not (uh HNEG) (fun h => h.1 hv0))
   have hv0' : (v.kind != 0) = false := by simp [hv0]
   clear hv0
   go_wp2
   go_end0
   exact ⟨⟨_, rfl⟩, _, _, _, by rw [uh HR]; exact uh HM1, uh HS1⟩
  have hv0' : (v.kind != 0) = true := by simp [hv0]
  by_cases hl : d.live < 500
  case neg =>
   have HR : Hid (putD hf d k v = d) := uy (putD_not (uh HNEG) (fun h => hl h.2.1))
   have hl' : decide (d.live < 500) = false := by simp; omega
   clear hv0 hl
   go_wp2
   go_end0
   exact ⟨⟨_, rfl⟩, _, _, _, by rw [uh HR]; exact uh HM1, uh HS1⟩
  have hl' : decide (d.live < 500) = true := by simp [hl]
  by_cases ht : d.turns < 1000000000000
  case neg =>
   have HR : Hid (putD hf d k v = d) := uy (putD_not (uh HNEG) (fun h => ht h.2.2))
   have ht' : decide (d.turns < 1000000000000) = false := by simp; omega
   clear hv0 hl ht
   go_wp2
   go_end0
   exact ⟨⟨_, rfl⟩, _, _, _, by rw [uh HR]; exact uh HM1, uh HS1⟩
  have ht' : decide (d.turns < 1000000000000) = true := by simp [ht]
  have HR : Hid (putD hf d k v = comeD hf d k v) := uy (putD_come (uh HNEG) ⟨hv0, hl, ht⟩)
  have HVV := uy hv0
  clear hv0
  go_wp2_with fail
  refine (l1come_any hf K (uh HKL) c o B _ _ _ d k v _ (uh HM1) (uh HS) (uh HI).i0 (uh HI).next (uh HH) (uh HK).1 (uh HK).2.1 (uh HK).2.2 (uh HVV) (uh HNO) hl ht hmm).mono ?_
  rintro e w2 ⟨⟨u, rfl⟩, t0, t1, t2, hM2, hs2⟩
  have HM2 := uy hM2
  have HS2 := uy ((uh HS1).trans hs2)
  clear hM2 hs2
  go_wp2
  go_end0
  exact ⟨⟨_, rfl⟩, _, _, _, by rw [uh HR]; exact uh HM2, uh HS2⟩
end
section
open Go.RowKit
theorem DMut.rows {w w' : World} {c o B : Nat} {v0 v1 v2 : Value} {d : Dc} (h : DMut w c o B v0 v1 v2 d) (hs : w.heap.size ≤ w'.heap.size) (hb : ∀ q, B ≤ q → q < w.heap.size → w'.heap[q]? = w.heap[q]?) :
  ∃ la lc ia ic xa xc, v0 = .slice la d.n lc ∧ v1 = .slice ia d.m ic ∧ v2 = .slice xa d.x xc ∧ DAt w' la ia xa d := by
 obtain ⟨la, lc, e0, hL⟩ := POwn.at (own_block h.log hs hb)
 obtain ⟨ia, ic, e1, hI⟩ := IOwn.at (own_block h.ints hs hb)
 obtain ⟨xa, xc, e2, hX⟩ := IOwn.at (own_block h.index hs hb)
 subst e0 e1 e2
 exact ⟨la, lc, ia, ic, xa, xc, rfl, rfl, rfl, hL, hI, hX⟩
end
section
open Go.RowKit
attribute [local go_sem] run_store_float run_equalIn_float
theorem DOwn.mut {w : World} {c : Nat} {v0 v1 v2 : Value} {d : Dc} (h : DOwn w c v0 v1 v2 d) : DMut w c 0 (c + 1) v0 v1 v2 d :=
 ⟨h.sz, h.c0, h.c1, h.c2, h.c3, h.c4, h.c5, h.fz, h.log, h.ints, h.index, h.ap, fun e => by
  rcases e with e | e | e
  ·have := (h.log.lt c e).1; omega
  ·have := (h.ints.lt c e).1; omega
  ·have := (h.index.lt c e).1; omega, h.sz⟩
set_option maxRecDepth 100000 in
set_option maxHeartbeats 4000000 in
theorem specPut (la : Option Addr) (lc : Nat) (ia : Option Addr) (ic : Nat) (xa : Option Addr) (xc : Nat) (d : Dc) (k v : Vl) (c : Int) (kv : Vl) (w : World) (hA : DAt w la ia xa d) (hS : Small d) (hW : WfD d) (hm : d.m ≤ 4000000) (hk : keyV k.kind k.num k.flt k.str k.ref = KV c kv.kind kv.num kv.flt kv.str kv.ref) (hh : c = 0 → Ky kv) :
  Calls Tryz.prog 19 #[Dv la lc ia ic xa xc d, V k.kind k.num k.flt k.str k.ref, V v.kind v.num v.flt v.str v.ref] w fun e w' => (∃ s0 s1 s2, e = .returned (DvV s0 s1 s2 (putO d c kv v)) ∧ DV (putO d c kv v) w' s0 s1 s2 w.heap.size w'.heap.size) ∧ Below w.heap.size w w' := by
 have HA := uy hA
 have HS := uy hS
 have HW := uy hW
 have HKV := uy hk
 have HH := uy hh
 clear hA hS hW hk hh
 have hb0 : Below w.heap.size w ((((w.alloc (.cells #[.slice la d.n lc, .slice ia d.m ic, .slice xa d.x xc, .int .i64 d.used, .int .i64 d.live, .int .i64 d.turns] 26)).alloc (.cells #[.int .i64 k.kind, .int .i64 k.num, .float .f64 k.flt, .string k.str, .int .i64 k.ref] 30)).alloc (.cells #[.int .i64 v.kind, .int .i64 v.num, .float .f64 v.flt, .string v.str, .int .i64 v.ref] 30)).alloc (.cells #[.slice none 0 0, .slice none 0 0, .slice none 0 0, .int .i64 0, .int .i64 0, .int .i64 0] 26)) := ((((Below.refl _ _).alloc (Nat.le_refl _) _).alloc (by simp) _).alloc (by simp; omega) _).alloc (by simp; omega) _
 have HB0 := uy hb0
 clear hb0
 go_enter Tryz.func19, Tryz.ntmps19
 go_wp2_with fail
 refine (skey_any k.kind k.num k.flt k.str k.ref _).mono ?_
 rintro e w1 ⟨rfl, hb1⟩
 rw [uh HKV]
 obtain ⟨hc1, hf1⟩ := bcell hb1
 have hz1 := hb1.size
 simp at hz1
 have y0 : w.heap.size < w1.heap.size := by omega
 have y2 : w.heap.size + 1 + 1 < w1.heap.size := by omega
 have y3 : w.heap.size + 1 + 1 + 1 < w1.heap.size := by omega
 have q0 : w1.cell? ⟨w.heap.size, 0, none⟩ = some (.slice la d.n lc) := by rw [hc1 _ _ (by simp; try omega)]; simp [go_sem]
 have q1 : w1.cell? ⟨w.heap.size, 1, none⟩ = some (.slice ia d.m ic) := by rw [hc1 _ _ (by simp; try omega)]; simp [go_sem]
 have q2 : w1.cell? ⟨w.heap.size, 2, none⟩ = some (.slice xa d.x xc) := by rw [hc1 _ _ (by simp; try omega)]; simp [go_sem]
 have q3 : w1.cell? ⟨w.heap.size, 3, none⟩ = some (.int .i64 d.used) := by rw [hc1 _ _ (by simp; try omega)]; simp [go_sem]
 have q4 : w1.cell? ⟨w.heap.size, 4, none⟩ = some (.int .i64 d.live) := by rw [hc1 _ _ (by simp; try omega)]; simp [go_sem]
 have q5 : w1.cell? ⟨w.heap.size, 5, none⟩ = some (.int .i64 d.turns) := by rw [hc1 _ _ (by simp; try omega)]; simp [go_sem]
 have u0 : w1.cell? ⟨w.heap.size + 1 + 1, 0, none⟩ = some (.int .i64 v.kind) := by rw [hc1 _ _ (by simp; try omega)]; simp [go_sem]
 have u1 : w1.cell? ⟨w.heap.size + 1 + 1, 1, none⟩ = some (.int .i64 v.num) := by rw [hc1 _ _ (by simp; try omega)]; simp [go_sem]
 have u2 : w1.cell? ⟨w.heap.size + 1 + 1, 2, none⟩ = some (.float .f64 v.flt) := by rw [hc1 _ _ (by simp; try omega)]; simp [go_sem]
 have u3 : w1.cell? ⟨w.heap.size + 1 + 1, 3, none⟩ = some (.string v.str) := by rw [hc1 _ _ (by simp; try omega)]; simp [go_sem]
 have u4 : w1.cell? ⟨w.heap.size + 1 + 1, 4, none⟩ = some (.int .i64 v.ref) := by rw [hc1 _ _ (by simp; try omega)]; simp [go_sem]
 have r0 : w1.cell? ⟨w.heap.size + 1 + 1 + 1, 0, none⟩ = some (.slice none 0 0) := by rw [hc1 _ _ (by simp; try omega)]; simp [go_sem]
 have r1 : w1.cell? ⟨w.heap.size + 1 + 1 + 1, 1, none⟩ = some (.slice none 0 0) := by rw [hc1 _ _ (by simp; try omega)]; simp [go_sem]
 have r2 : w1.cell? ⟨w.heap.size + 1 + 1 + 1, 2, none⟩ = some (.slice none 0 0) := by rw [hc1 _ _ (by simp; try omega)]; simp [go_sem]
 have r3 : w1.cell? ⟨w.heap.size + 1 + 1 + 1, 3, none⟩ = some (.int .i64 0) := by rw [hc1 _ _ (by simp; try omega)]; simp [go_sem]
 have r4 : w1.cell? ⟨w.heap.size + 1 + 1 + 1, 4, none⟩ = some (.int .i64 0) := by rw [hc1 _ _ (by simp; try omega)]; simp [go_sem]
 have r5 : w1.cell? ⟨w.heap.size + 1 + 1 + 1, 5, none⟩ = some (.int .i64 0) := by rw [hc1 _ _ (by simp; try omega)]; simp [go_sem]
 have fr : ∀ o, w1.frozen? ⟨w.heap.size + 1 + 1 + 1, o, none⟩ = false := fun o => by rw [hf1 _ _ (by simp; try omega)]; simp [go_sem]
 have HB1 := uy ((uh HB0).trans (hb1.mono (uh HB0).size))
 have HBs1 : Hid (∀ o, Below w.heap.size w (w1.alloc o)) := uy (fun o => (uh HB1).alloc (by omega) _)
 clear hb1 hc1 hf1
 go_wp2_with fail
 refine (specOk la lc ia ic xa xc d _ ((uh HA).below (uh HBs1 _)) (uh HS) (uh HW)).mono ?_
 rintro e w2 ⟨rfl, hb2⟩
 obtain ⟨hc2, hf2⟩ := bcell hb2
 have hz2 := hb2.size
 simp at hz2
 have z0 : w.heap.size < w2.heap.size := by omega
 have z2 : w.heap.size + 1 + 1 < w2.heap.size := by omega
 have z3 : w.heap.size + 1 + 1 + 1 < w2.heap.size := by omega
 have zk : w1.heap.size < w2.heap.size := by omega
 have q0' : w2.cell? ⟨w.heap.size, 0, none⟩ = some (.slice la d.n lc) := by rw [hc2 _ _ (by simp; omega), World.cell?_alloc_lt _ _ _ (by exact y0)]; exact q0
 have q1' : w2.cell? ⟨w.heap.size, 1, none⟩ = some (.slice ia d.m ic) := by rw [hc2 _ _ (by simp; omega), World.cell?_alloc_lt _ _ _ (by exact y0)]; exact q1
 have q2' : w2.cell? ⟨w.heap.size, 2, none⟩ = some (.slice xa d.x xc) := by rw [hc2 _ _ (by simp; omega), World.cell?_alloc_lt _ _ _ (by exact y0)]; exact q2
 have q3' : w2.cell? ⟨w.heap.size, 3, none⟩ = some (.int .i64 d.used) := by rw [hc2 _ _ (by simp; omega), World.cell?_alloc_lt _ _ _ (by exact y0)]; exact q3
 have q4' : w2.cell? ⟨w.heap.size, 4, none⟩ = some (.int .i64 d.live) := by rw [hc2 _ _ (by simp; omega), World.cell?_alloc_lt _ _ _ (by exact y0)]; exact q4
 have q5' : w2.cell? ⟨w.heap.size, 5, none⟩ = some (.int .i64 d.turns) := by rw [hc2 _ _ (by simp; omega), World.cell?_alloc_lt _ _ _ (by exact y0)]; exact q5
 have u0' : w2.cell? ⟨w.heap.size + 1 + 1, 0, none⟩ = some (.int .i64 v.kind) := by rw [hc2 _ _ (by simp; omega), World.cell?_alloc_lt _ _ _ (by exact y2)]; exact u0
 have u1' : w2.cell? ⟨w.heap.size + 1 + 1, 1, none⟩ = some (.int .i64 v.num) := by rw [hc2 _ _ (by simp; omega), World.cell?_alloc_lt _ _ _ (by exact y2)]; exact u1
 have u2' : w2.cell? ⟨w.heap.size + 1 + 1, 2, none⟩ = some (.float .f64 v.flt) := by rw [hc2 _ _ (by simp; omega), World.cell?_alloc_lt _ _ _ (by exact y2)]; exact u2
 have u3' : w2.cell? ⟨w.heap.size + 1 + 1, 3, none⟩ = some (.string v.str) := by rw [hc2 _ _ (by simp; omega), World.cell?_alloc_lt _ _ _ (by exact y2)]; exact u3
 have u4' : w2.cell? ⟨w.heap.size + 1 + 1, 4, none⟩ = some (.int .i64 v.ref) := by rw [hc2 _ _ (by simp; omega), World.cell?_alloc_lt _ _ _ (by exact y2)]; exact u4
 have r0' : w2.cell? ⟨w.heap.size + 1 + 1 + 1, 0, none⟩ = some (.slice none 0 0) := by rw [hc2 _ _ (by simp; omega), World.cell?_alloc_lt _ _ _ (by exact y3)]; exact r0
 have r1' : w2.cell? ⟨w.heap.size + 1 + 1 + 1, 1, none⟩ = some (.slice none 0 0) := by rw [hc2 _ _ (by simp; omega), World.cell?_alloc_lt _ _ _ (by exact y3)]; exact r1
 have r2' : w2.cell? ⟨w.heap.size + 1 + 1 + 1, 2, none⟩ = some (.slice none 0 0) := by rw [hc2 _ _ (by simp; omega), World.cell?_alloc_lt _ _ _ (by exact y3)]; exact r2
 have r3' : w2.cell? ⟨w.heap.size + 1 + 1 + 1, 3, none⟩ = some (.int .i64 0) := by rw [hc2 _ _ (by simp; omega), World.cell?_alloc_lt _ _ _ (by exact y3)]; exact r3
 have r4' : w2.cell? ⟨w.heap.size + 1 + 1 + 1, 4, none⟩ = some (.int .i64 0) := by rw [hc2 _ _ (by simp; omega), World.cell?_alloc_lt _ _ _ (by exact y3)]; exact r4
 have r5' : w2.cell? ⟨w.heap.size + 1 + 1 + 1, 5, none⟩ = some (.int .i64 0) := by rw [hc2 _ _ (by simp; omega), World.cell?_alloc_lt _ _ _ (by exact y3)]; exact r5
 have k0 : w2.cell? ⟨w1.heap.size, 0, none⟩ = some (.int .i64 c) := by rw [hc2 _ _ (by simp)]; simp [go_sem]
 have k1 : w2.cell? ⟨w1.heap.size, 1, none⟩ = some (.int .i64 kv.kind) := by rw [hc2 _ _ (by simp)]; simp [go_sem]
 have k2 : w2.cell? ⟨w1.heap.size, 2, none⟩ = some (.int .i64 kv.num) := by rw [hc2 _ _ (by simp)]; simp [go_sem]
 have k3 : w2.cell? ⟨w1.heap.size, 3, none⟩ = some (.float .f64 kv.flt) := by rw [hc2 _ _ (by simp)]; simp [go_sem]
 have k4 : w2.cell? ⟨w1.heap.size, 4, none⟩ = some (.string kv.str) := by rw [hc2 _ _ (by simp)]; simp [go_sem]
 have k5 : w2.cell? ⟨w1.heap.size, 5, none⟩ = some (.int .i64 kv.ref) := by rw [hc2 _ _ (by simp)]; simp [go_sem]
 have fr2 : ∀ o, w2.frozen? ⟨w.heap.size + 1 + 1 + 1, o, none⟩ = false := fun o => by rw [hf2 _ _ (by simp; omega)]; exact (((Below.refl w1.heap.size w1).alloc (Nat.le_refl _) _).frozen (p := ⟨w.heap.size + 1 + 1 + 1, o, none⟩) y3).trans (fr o)
 have HB2 := uy ((uh HBs1 _).trans (hb2.mono (uh HBs1 _).size))
 clear hb2 hc2 hf2 fr q0 q1 q2 q3 q4 q5 u0 u1 u2 u3 u4 r0 r1 r2 r3 r4 r5
 by_cases hok : dictOk d (hD d) = 0
 case neg =>
  have HR : Hid (putO d c kv v = noD) := uy (if_neg (fun h => hok h.1))
  have hk' : (dictOk d (hD d) != 0) = true := by simp [hok]
  clear hok
  generalize dictOk d (hD d) = ok at hk'
  go_wp2
  refine bodyPost_ret (v := .agg #[.slice none 0 0, .slice none 0 0, .slice none 0 0, .int .i64 0, .int .i64 0, .int .i64 0]) (by simp [results, Tryz.results19, go_sem, r0', r1', r2', r3', r4', r5']) rfl ⟨⟨.slice none 0 0, .slice none 0 0, .slice none 0 0, by rw [uh HR]; rfl, by rw [uh HR]; exact noD_dv _ _ _⟩, ?_⟩
  iterate 6 (refine Below.setCell ?_ (by show w.heap.size ≤ w.heap.size + 1 + 1 + 1; omega) _)
  exact uh HB2
 by_cases hc : c = 0
 case neg =>
  have HR : Hid (putO d c kv v = noD) := uy (if_neg (fun h => hc h.2.1))
  have hc' : (c != 0) = true := by simp [hc]
  rw [hok]
  clear hok hc
  go_wp2
  refine bodyPost_ret (v := .agg #[.slice none 0 0, .slice none 0 0, .slice none 0 0, .int .i64 0, .int .i64 0, .int .i64 0]) (by simp [results, Tryz.results19, go_sem, r0', r1', r2', r3', r4', r5']) rfl ⟨⟨.slice none 0 0, .slice none 0 0, .slice none 0 0, by rw [uh HR]; rfl, by rw [uh HR]; exact noD_dv _ _ _⟩, ?_⟩
  iterate 6 (refine Below.setCell ?_ (by show w.heap.size ≤ w.heap.size + 1 + 1 + 1; omega) _)
  exact uh HB2
 have HSd := uy (sound_of hok)
 have HOK := uy hok
 rw [hok]
 subst hc
 clear hok
 go_wp2_with fail
 refine (valueOk_any v.kind v.num v.flt v.str v.ref _).mono ?_
 rintro e w3 ⟨rfl, hb3⟩
 have x0 : w.heap.size < w3.heap.size := Nat.lt_of_lt_of_le z0 hb3.size
 have x2 : w.heap.size + 1 + 1 < w3.heap.size := Nat.lt_of_lt_of_le z2 hb3.size
 have x3 : w.heap.size + 1 + 1 + 1 < w3.heap.size := Nat.lt_of_lt_of_le z3 hb3.size
 have xk : w1.heap.size < w3.heap.size := Nat.lt_of_lt_of_le zk hb3.size
 have q0 := (hb3.cell (p := ⟨w.heap.size, 0, none⟩) z0).trans q0'
 have q1 := (hb3.cell (p := ⟨w.heap.size, 1, none⟩) z0).trans q1'
 have q2 := (hb3.cell (p := ⟨w.heap.size, 2, none⟩) z0).trans q2'
 have q3 := (hb3.cell (p := ⟨w.heap.size, 3, none⟩) z0).trans q3'
 have q4 := (hb3.cell (p := ⟨w.heap.size, 4, none⟩) z0).trans q4'
 have q5 := (hb3.cell (p := ⟨w.heap.size, 5, none⟩) z0).trans q5'
 have u0 := (hb3.cell (p := ⟨w.heap.size + 1 + 1, 0, none⟩) z2).trans u0'
 have u1 := (hb3.cell (p := ⟨w.heap.size + 1 + 1, 1, none⟩) z2).trans u1'
 have u2 := (hb3.cell (p := ⟨w.heap.size + 1 + 1, 2, none⟩) z2).trans u2'
 have u3 := (hb3.cell (p := ⟨w.heap.size + 1 + 1, 3, none⟩) z2).trans u3'
 have u4 := (hb3.cell (p := ⟨w.heap.size + 1 + 1, 4, none⟩) z2).trans u4'
 have r0 := (hb3.cell (p := ⟨w.heap.size + 1 + 1 + 1, 0, none⟩) z3).trans r0'
 have r1 := (hb3.cell (p := ⟨w.heap.size + 1 + 1 + 1, 1, none⟩) z3).trans r1'
 have r2 := (hb3.cell (p := ⟨w.heap.size + 1 + 1 + 1, 2, none⟩) z3).trans r2'
 have r3 := (hb3.cell (p := ⟨w.heap.size + 1 + 1 + 1, 3, none⟩) z3).trans r3'
 have r4 := (hb3.cell (p := ⟨w.heap.size + 1 + 1 + 1, 4, none⟩) z3).trans r4'
 have r5 := (hb3.cell (p := ⟨w.heap.size + 1 + 1 + 1, 5, none⟩) z3).trans r5'
 have k0' := (hb3.cell (p := ⟨w1.heap.size, 0, none⟩) zk).trans k0
 have k1' := (hb3.cell (p := ⟨w1.heap.size, 1, none⟩) zk).trans k1
 have k2' := (hb3.cell (p := ⟨w1.heap.size, 2, none⟩) zk).trans k2
 have k3' := (hb3.cell (p := ⟨w1.heap.size, 3, none⟩) zk).trans k3
 have k4' := (hb3.cell (p := ⟨w1.heap.size, 4, none⟩) zk).trans k4
 have k5' := (hb3.cell (p := ⟨w1.heap.size, 5, none⟩) zk).trans k5
 have fr3 : ∀ o, w3.frozen? ⟨w.heap.size + 1 + 1 + 1, o, none⟩ = false := fun o => (hb3.frozen (p := ⟨w.heap.size + 1 + 1 + 1, o, none⟩) z3).trans (fr2 o)
 have HB3 := uy ((uh HB2).trans (hb3.mono (uh HB2).size))
 clear hb3 fr2 q0' q1' q2' q3' q4' q5' u0' u1' u2' u3' u4' r0' r1' r2' r3' r4' r5' k0 k1 k2 k3 k4 k5
 by_cases hv : validB v.kind v.num v.flt v.str v.ref = true
 case neg =>
  have HR : Hid (putO d 0 kv v = noD) := uy (if_neg (fun h => hv h.2.2))
  have hv' : validB v.kind v.num v.flt v.str v.ref = false := by simpa using hv
  rw [hv']
  clear hv hv'
  go_wp2
  refine bodyPost_ret (v := .agg #[.slice none 0 0, .slice none 0 0, .slice none 0 0, .int .i64 0, .int .i64 0, .int .i64 0]) (by simp [results, Tryz.results19, go_sem, r0, r1, r2, r3, r4, r5]) rfl ⟨⟨.slice none 0 0, .slice none 0 0, .slice none 0 0, by rw [uh HR]; rfl, by rw [uh HR]; exact noD_dv _ _ _⟩, ?_⟩
  iterate 6 (refine Below.setCell ?_ (by show w.heap.size ≤ w.heap.size + 1 + 1 + 1; omega) _)
  exact uh HB3
 have HR : Hid (putO d 0 kv v = putD hN d kv v) := uy (if_pos ⟨uh HOK, rfl, hv⟩)
 have HV := uy hv
 rw [hv]
 clear hv
 go_wp2_with fail
 refine (l1copy_any la lc ia ic xa xc d _ ((uh HA).below (uh HB3)) (uh HS)).mono ?_
 rintro e w4 ⟨⟨cp, v0, v1, v2, rfl, hceq, hown⟩, hb4⟩
 have X3 : w.heap.size + 1 + 1 + 1 < w4.heap.size := Nat.lt_of_lt_of_le x3 hb4.size
 have X2 : w.heap.size + 1 + 1 < w4.heap.size := Nat.lt_of_lt_of_le x2 hb4.size
 have Xk : w1.heap.size < w4.heap.size := Nat.lt_of_lt_of_le xk hb4.size
 have hcp : w.heap.size + 1 + 1 + 1 < cp := by omega
 clear hceq
 have u0' := (hb4.cell (p := ⟨w.heap.size + 1 + 1, 0, none⟩) x2).trans u0
 have u1' := (hb4.cell (p := ⟨w.heap.size + 1 + 1, 1, none⟩) x2).trans u1
 have u2' := (hb4.cell (p := ⟨w.heap.size + 1 + 1, 2, none⟩) x2).trans u2
 have u3' := (hb4.cell (p := ⟨w.heap.size + 1 + 1, 3, none⟩) x2).trans u3
 have u4' := (hb4.cell (p := ⟨w.heap.size + 1 + 1, 4, none⟩) x2).trans u4
 have r0' := (hb4.cell (p := ⟨w.heap.size + 1 + 1 + 1, 0, none⟩) x3).trans r0
 have r1' := (hb4.cell (p := ⟨w.heap.size + 1 + 1 + 1, 1, none⟩) x3).trans r1
 have r2' := (hb4.cell (p := ⟨w.heap.size + 1 + 1 + 1, 2, none⟩) x3).trans r2
 have r3' := (hb4.cell (p := ⟨w.heap.size + 1 + 1 + 1, 3, none⟩) x3).trans r3
 have r4' := (hb4.cell (p := ⟨w.heap.size + 1 + 1 + 1, 4, none⟩) x3).trans r4
 have r5' := (hb4.cell (p := ⟨w.heap.size + 1 + 1 + 1, 5, none⟩) x3).trans r5
 have k0 := (hb4.cell (p := ⟨w1.heap.size, 0, none⟩) xk).trans k0'
 have k1 := (hb4.cell (p := ⟨w1.heap.size, 1, none⟩) xk).trans k1'
 have k2 := (hb4.cell (p := ⟨w1.heap.size, 2, none⟩) xk).trans k2'
 have k3 := (hb4.cell (p := ⟨w1.heap.size, 3, none⟩) xk).trans k3'
 have k4 := (hb4.cell (p := ⟨w1.heap.size, 4, none⟩) xk).trans k4'
 have k5 := (hb4.cell (p := ⟨w1.heap.size, 5, none⟩) xk).trans k5'
 have fr4 : ∀ o, w4.frozen? ⟨w.heap.size + 1 + 1 + 1, o, none⟩ = false := fun o => (hb4.frozen (p := ⟨w.heap.size + 1 + 1 + 1, o, none⟩) x3).trans (fr3 o)
 have HB4 := uy ((uh HB3).trans (hb4.mono (uh HB3).size))
 have HM := uy hown.mut
 clear hb4 hown fr3 q0 q1 q2 q3 q4 q5 u0 u1 u2 u3 u4 r0 r1 r2 r3 r4 r5 k0' k1' k2' k3' k4' k5'
 go_wp2_with fail
 refine (l1put_any hN Ky keyLaw cp 0 (cp + 1) v0 v1 v2 d kv v _ (uh HM) (uh HS) (sound_inv (uh HSd) (uh HW)) hsS_all (uh HH trivial) (uh HH trivial).1 (uh HV) hm).mono ?_
 rintro e w5 ⟨⟨uu, rfl⟩, t0, t1, t2, hM5, hs5⟩
 have hB5 : Below (w.heap.size + 1 + 1 + 1 + 1) w4 w5 := hs5.below (by omega) (by omega) (fun b e => by have := ((uh HM).own3 e).1; omega)
 have X5 : w.heap.size + 1 + 1 + 1 < w5.heap.size := Nat.lt_of_lt_of_le X3 hB5.size
 have r0 := (hB5.cell (p := ⟨w.heap.size + 1 + 1 + 1, 0, none⟩) (by show w.heap.size + 1 + 1 + 1 < w.heap.size + 1 + 1 + 1 + 1; omega)).trans r0'
 have r1 := (hB5.cell (p := ⟨w.heap.size + 1 + 1 + 1, 1, none⟩) (by show w.heap.size + 1 + 1 + 1 < w.heap.size + 1 + 1 + 1 + 1; omega)).trans r1'
 have r2 := (hB5.cell (p := ⟨w.heap.size + 1 + 1 + 1, 2, none⟩) (by show w.heap.size + 1 + 1 + 1 < w.heap.size + 1 + 1 + 1 + 1; omega)).trans r2'
 have r3 := (hB5.cell (p := ⟨w.heap.size + 1 + 1 + 1, 3, none⟩) (by show w.heap.size + 1 + 1 + 1 < w.heap.size + 1 + 1 + 1 + 1; omega)).trans r3'
 have r4 := (hB5.cell (p := ⟨w.heap.size + 1 + 1 + 1, 4, none⟩) (by show w.heap.size + 1 + 1 + 1 < w.heap.size + 1 + 1 + 1 + 1; omega)).trans r4'
 have r5 := (hB5.cell (p := ⟨w.heap.size + 1 + 1 + 1, 5, none⟩) (by show w.heap.size + 1 + 1 + 1 < w.heap.size + 1 + 1 + 1 + 1; omega)).trans r5'
 have fr5 : ∀ o, w5.frozen? ⟨w.heap.size + 1 + 1 + 1, o, none⟩ = false := fun o => (hB5.frozen (p := ⟨w.heap.size + 1 + 1 + 1, o, none⟩) (by show w.heap.size + 1 + 1 + 1 < w.heap.size + 1 + 1 + 1 + 1; omega)).trans (fr4 o)
 have HB5 := uy ((uh HB4).trans (hB5.mono (by omega)))
 have hlt := hM5.lt
 have c0 := hM5.c0
 have c1 := hM5.c1
 have c2 := hM5.c2
 have c3 := hM5.c3
 have c4 := hM5.c4
 have c5 := hM5.c5
 have HROW := uy (fun (w' : World) (h1 : w5.heap.size ≤ w'.heap.size) (h2 : ∀ q, cp + 1 ≤ q → q < w5.heap.size → w'.heap[q]? = w5.heap[q]?) => hM5.rows h1 h2)
 have HDVV : Hid (∀ w' : World, w5.heap.size ≤ w'.heap.size → (∀ q, cp + 1 ≤ q → q < w5.heap.size → w'.heap[q]? = w5.heap[q]?) → DV (putD hN d kv v) w' t0 t1 t2 w.heap.size w'.heap.size) := uy (fun w' h1 h2 => by
  have o0 := PrV.of (own_mono (own_block hM5.log h1 h2) (show w.heap.size ≤ cp + 1 by omega))
  have o1 := InV.of (own_mono (own_block hM5.ints h1 h2) (show w.heap.size ≤ cp + 1 by omega))
  have o2 := InV.of (own_mono (own_block hM5.index h1 h2) (show w.heap.size ≤ cp + 1 by omega))
  have ta : ∀ {q : Nat} {v v' : Value} {n n' : Nat} {f : Nat → Pr} {g : Nat → Int}, POwn w5 (cp + 1) v n f → IOwn w5 (cp + 1) v' n' g → v.ownBlock = some q → v'.ownBlock ≠ some q := fun {q v v' n n' f g} hp hi e e' => by
   obtain ⟨_, ⟨hv, _⟩ | ⟨a, cap, cur, hv, _, hblk, _⟩⟩ := hp
   ·rw [hv] at e; cases e
   ·obtain ⟨_, ⟨hv', _⟩ | ⟨a', cap', cur', hv', _, hblk', _⟩⟩ := hi
    ·rw [hv'] at e'; cases e'
    ·rw [hv] at e
     rw [hv'] at e'
     have e1 : a = q := by simpa [Value.ownBlock] using e
     have e2 : a' = q := by simpa [Value.ownBlock] using e'
     rw [e1] at hblk
     rw [e2] at hblk'
     rw [hblk] at hblk'
     cases hblk'
  exact ⟨o0, o1, o2, fun q e => ta hM5.log hM5.ints e, fun q e => ta hM5.log hM5.index e, hM5.ap⟩)
 clear hM5 hs5 hB5 fr4 u0' u1' u2' u3' u4' r0' r1' r2' r3' r4' r5' k0 k1 k2 k3 k4 k5
 obtain ⟨la', lc', ia', ic', xa', xc', rfl, rfl, rfl, -⟩ := uh HROW w5 (Nat.le_refl _) (fun _ _ _ => rfl)
 generalize hP : putD hN d kv v = P at *
 go_wp2
 refine bodyPost_ret (v := Dv la' lc' ia' ic' xa' xc' P) (by simp [results, Tryz.results19, go_sem, r0, r1, r2, r3, r4, r5]) rfl ⟨⟨.slice la' P.n lc', .slice ia' P.m ic', .slice xa' P.x xc', by rw [uh HR], ?_⟩, ?_⟩
 ·rw [uh HR]
  refine uh HDVV _ (by simp) (fun q hq _ => ?_)
  iterate 6 (refine (Deep.blk_setCell_other _ _ _ _ (by show q ≠ w.heap.size + 1 + 1 + 1; omega)).trans ?_)
  rfl
 ·iterate 6 (refine Below.setCell ?_ (by show w.heap.size ≤ w.heap.size + 1 + 1 + 1; omega) _)
  exact uh HB5
end
end Go.Proofs.YtglcaejddckleaaGreatDoor
