/-
  IdE, IdP, IdF, IdG.
-/
import Derived.Test.YtnjgebncghdajaaGreatDoorIdAP
import Derived.Test.YtnjgebncghdajaaGreatDoorBi1
namespace Go.Proofs.YtnjgebncghdajaaGreatDoor
open Go.RowKit
set_option linter.unusedVariables false
attribute [local go_sem] run_store_float run_equalIn_float

theorem below_set5 {B : Nat} {a w : World} (h : Below B a w) (b : Nat) (hb : B ≤ b) (v0 v1 v2 v3 v4 : Value) :
    Below B a (((((w.setCell ⟨b, 0, none⟩ v0).setCell ⟨b, 1, none⟩ v1).setCell ⟨b, 2, none⟩ v2).setCell ⟨b, 3, none⟩ v3).setCell ⟨b, 4, none⟩ v4) :=
  ((((h.setCell (p := ⟨b, 0, none⟩) hb v0).setCell (p := ⟨b, 1, none⟩) hb v1).setCell (p := ⟨b, 2, none⟩) hb v2).setCell (p := ⟨b, 3, none⟩) hb v3).setCell (p := ⟨b, 4, none⟩) hb v4
/-- A value in a box. -/
structure VBx (w : World) (b : Nat) (k : Vl) : Prop where
  lt : b < w.heap.size
  c0 : w.cell? ⟨b, 0, none⟩ = some (.int .i64 k.kind)
  c1 : w.cell? ⟨b, 1, none⟩ = some (.int .i64 k.num)
  c2 : w.cell? ⟨b, 2, none⟩ = some (.float .f64 k.flt)
  c3 : w.cell? ⟨b, 3, none⟩ = some (.string k.str)
  c4 : w.cell? ⟨b, 4, none⟩ = some (.int .i64 k.ref)
theorem VBx.keep {w w' : World} {b : Nat} {k : Vl} (h : VBx w b k) (hl : w.heap.size ≤ w'.heap.size) (hk : w'.heap[b]? = w.heap[b]?) : VBx w' b k :=
  ⟨by have := h.lt; omega, (World.cell?_of_block (a := ⟨b, 0, none⟩) hk).trans h.c0, (World.cell?_of_block (a := ⟨b, 1, none⟩) hk).trans h.c1, (World.cell?_of_block (a := ⟨b, 2, none⟩) hk).trans h.c2, (World.cell?_of_block (a := ⟨b, 3, none⟩) hk).trans h.c3, (World.cell?_of_block (a := ⟨b, 4, none⟩) hk).trans h.c4⟩
theorem VBx.below {B : Nat} {w w' : World} {b : Nat} {k : Vl} (h : VBx w b k) (hb : Below B w w') (hB : b < B) : VBx w' b k := h.keep hb.size (hb.block _ hB)

set_option maxRecDepth 100000 in
set_option maxHeartbeats 4000000 in
theorem find1_any (p : Pr) (k : Vl) (kb : Nat) (w : World) (hK : VBx w kb k) :
    Calls Tryz.prog 93 #[PV p, .pointer (some ⟨kb, 0, none⟩)] w fun e w' => e = .returned (.bool (lkB p.key k)) ∧ Below w.heap.size w w' := by
  have HK := hide hK
  obtain ⟨hl, q0, q1, q2, q3, q4⟩ := hK
  go_enter Tryz.func93, Tryz.ntmps93
  go_wp2
  all_goals (go_ret; refine ⟨by simp_all [lkB, fqB], (Below.refl _ _).alloc (Nat.le_refl _) _⟩)

set_option maxRecDepth 100000 in
set_option maxHeartbeats 4000000 in
theorem indexFunc_any (a : Option Addr) (cp : Nat) (t : Pl) (k : Vl) (kb : Nat) (w : World) (hP : PAt w a t.n t.P) (hn : t.n ≤ 500) (hK : VBx w kb k) :
    Calls Tryz.prog 92 #[.slice a t.n cp, .func (.func 93) #[] #[.pointer (some ⟨kb, 0, none⟩)]] w fun e w' => e = .returned (.int .i64 (t.at k)) ∧ Below w.heap.size w w' := by
  have HP := hide hP
  have HK := hide hK
  clear hP hK
  go_enter Tryz.func92, Tryz.ntmps92
  go_wp2_with fail
  go_loopw [8] (fun i wr => ∃ q : Nat, q ≤ t.n ∧ i = .int .i64 q ∧ t.at k = atF (fun j => lkB (t.P j).key k) (t.n - q) q ∧ Below w.heap.size w wr) (fun i _ => t.n - (intOf i).toNat)
  case atStart => exact ⟨0, by omega, rfl, rfl, Below.refl _ _⟩
  case round =>
    obtain ⟨q, hq, rfl, hat, hb⟩ := hrel
    have hsz := hb.size
    have HB := hide hb
    have HAT := hide hat
    by_cases hqn : q < t.n
    · obtain ⟨b, off, rfl, hbl, hcs⟩ := (unhide HP).resolve_left (by omega)
      obtain ⟨e0, e1, e2, e3, e4, e5, e6, e7, e8, e9, e10⟩ := (hcs q hqn).keep (fun j => hb.cell (p := ⟨b, j, none⟩) hbl)
      have hK := (unhide HK).below hb (unhide HK).lt
      clear hcs hb hat
      go_wp2_with fail
      refine (find1_any (t.P q) k kb _ hK).mono ?_
      rintro e w1 ⟨rfl, hb1⟩
      cases hl : lkB (t.P q).key k
      · have HN := hide ((unhide HAT).trans (atF_miss hqn hl))
        go_wp2_with fail
        go_roundw
        case rel => exact ⟨q + 1, by omega, by go_num, unhide HN, (unhide HB).trans (hb1.mono hsz)⟩
        case measure => simp [intOf]; omega
      · have HN := hide ((unhide HAT).trans (atF_hit hqn hl))
        go_wp2_with fail
        go_ret
        exact ⟨by rw [unhide HN]; rfl, (unhide HB).trans (hb1.mono hsz)⟩
    · have HN := hide ((unhide HAT).trans (atF_end hqn))
      have hqe : q = t.n := by omega
      subst hqe
      clear hb hat hqn
      go_wp2_with fail
      go_ret
      exact ⟨by rw [unhide HN]; rfl, unhide HB⟩
end Go.Proofs.YtnjgebncghdajaaGreatDoor
namespace Go.Proofs.YtnjgebncghdajaaGreatDoor
open Go.RowKit
set_option linter.unusedVariables false
attribute [local go_sem] run_store_float run_equalIn_float

set_option maxHeartbeats 1000000 in
theorem l4wants_any (op : Int) (w : World) :
    Calls Tryz.prog 28 #[.int .i64 op] w fun e w' => e = .returned (.tuple #[.bool (tabB op), .bool (sitB op)]) ∧ w' = w := by
  by_cases h1 : op = 1
  · subst h1
    go_enter Tryz.func28, Tryz.ntmps28
    go_wp2
    exact bodyPost_ret (v := .tuple #[.bool false, .bool false]) (by simp [results, Tryz.results28, go_sem]) rfl ⟨rfl, rfl⟩
  · by_cases h7 : op = 7
    · subst h7
      go_enter Tryz.func28, Tryz.ntmps28
      go_wp2
      exact bodyPost_ret (v := .tuple #[.bool false, .bool false]) (by simp [results, Tryz.results28, go_sem]) rfl ⟨rfl, rfl⟩
    · by_cases h8 : op = 8
      · subst h8
        go_enter Tryz.func28, Tryz.ntmps28
        go_wp2
        exact bodyPost_ret (v := .tuple #[.bool true, .bool true]) (by simp [results, Tryz.results28, go_sem]) rfl ⟨rfl, rfl⟩
      · have HT : Hid (tabB op = true) := hide (by simp [tabB, h1, h7])
        have HS : Hid (sitB op = (op == 9)) := hide (by simp [sitB, h8])
        have d1 : (op != 1) = true := by simp [h1]
        have d7 : (op != 7) = true := by simp [h7]
        have d8 : (op == 8) = false := by simp [h8]
        clear h1 h7 h8
        go_enter Tryz.func28, Tryz.ntmps28
        go_wp2
        exact bodyPost_ret (v := .tuple #[.bool true, .bool (op == 9)]) (by simp [results, Tryz.results28, go_sem]) rfl ⟨by rw [unhide HT, unhide HS], rfl⟩
set_option maxHeartbeats 1000000 in
theorem l1str_any (s : ByteArray) (w : World) :
    Calls Tryz.prog 32 #[.string s] w fun e w' => e = .returned (V (strV s).kind (strV s).num (strV s).flt (strV s).str (strV s).ref) ∧ Below w.heap.size w w' := by
  go_enter Tryz.func32, Tryz.ntmps32
  go_wp2
  exact bodyPost_ret (v := V 4 0 0 s 0) (by simp [results, Tryz.results32, go_sem]) rfl ⟨rfl, (Below.refl _ _).alloc (Nat.le_refl _) _⟩
set_option maxHeartbeats 1000000 in
theorem textValue_any (s : ByteArray) (w : World) :
    Calls Tryz.prog 68 #[.string s] w fun e w' => e = .returned (V (strV s).kind (strV s).num (strV s).flt (strV s).str (strV s).ref) ∧ Below w.heap.size w w' := by
  go_enter Tryz.func68, Tryz.ntmps68
  go_wp2
  exact bodyPost_ret (v := V 4 0 0 s 0) (by simp [results, Tryz.results68, go_sem]) rfl ⟨rfl, (Below.refl _ _).alloc (Nat.le_refl _) _⟩
/-- What becomes of a key. -/
def fateI (there : Bool) (v : Vl) : Int := if there = true then (if v.kind = 0 then 3 else 2) else (if v.kind = 0 then 0 else 1)
set_option maxHeartbeats 1000000 in
theorem fateOf_any (there : Bool) (v : Vl) (w : World) :
    Calls Tryz.prog 65 #[.bool there, V v.kind v.num v.flt v.str v.ref] w fun e w' => e = .returned (.int .i64 (fateI there v)) ∧ Below w.heap.size w w' := by
  unfold fateI
  cases there <;> by_cases h : v.kind = 0
  · have d : (v.kind == 0) = true := by simp [h]
    rw [if_neg (by simp), if_pos h]
    clear h
    go_enter Tryz.func65, Tryz.ntmps65
    go_wp2
    go_ret
    exact ⟨rfl, (Below.refl _ _).alloc (Nat.le_refl _) _⟩
  · have d : (v.kind == 0) = false := by simp [h]
    rw [if_neg (by simp), if_neg h]
    clear h
    go_enter Tryz.func65, Tryz.ntmps65
    go_wp2
    go_ret
    exact ⟨rfl, (Below.refl _ _).alloc (Nat.le_refl _) _⟩
  · have d : (v.kind == 0) = true := by simp [h]
    rw [if_pos rfl, if_pos h]
    clear h
    go_enter Tryz.func65, Tryz.ntmps65
    go_wp2
    go_ret
    exact ⟨rfl, (Below.refl _ _).alloc (Nat.le_refl _) _⟩
  · have d : (v.kind == 0) = false := by simp [h]
    rw [if_pos rfl, if_neg h]
    clear h
    go_enter Tryz.func65, Tryz.ntmps65
    go_wp2
    go_ret
    exact ⟨rfl, (Below.refl _ _).alloc (Nat.le_refl _) _⟩
end Go.Proofs.YtnjgebncghdajaaGreatDoor
namespace Go.Proofs.YtnjgebncghdajaaGreatDoor
open Go.RowKit
set_option linter.unusedVariables false
attribute [local go_sem] run_store_float run_equalIn_float

/-- A plain table behind a pointer. -/
structure TPt (w : World) (c o : Nat) (a : Option Addr) (cp : Nat) (t : Pl) : Prop where
  lt : c < w.heap.size
  c0 : w.cell? ⟨c, o, none⟩ = some (.slice a t.n cp)
  c1 : w.cell? ⟨c, o + 1, none⟩ = some (.int .i64 t.turns)
  row : PAt w a t.n t.P
theorem TPt.below {w w' : World} {c o : Nat} {a : Option Addr} {cp : Nat} {t : Pl} (h : TPt w c o a cp t) (hb : Below w.heap.size w w') : TPt w' c o a cp t :=
  ⟨by have := h.lt; have := hb.size; omega, (hb.cell (p := ⟨c, o, none⟩) h.lt).trans h.c0, (hb.cell (p := ⟨c, o + 1, none⟩) h.lt).trans h.c1, h.row.below hb rfl⟩

set_option maxRecDepth 100000 in
set_option maxHeartbeats 4000000 in
theorem find_any (c o : Nat) (a : Option Addr) (cp : Nat) (t : Pl) (k : Vl) (w : World) (hT : TPt w c o a cp t) (hn : t.n ≤ 500) :
    Calls Tryz.prog 64 #[.pointer (some ⟨c, o, none⟩), V k.kind k.num k.flt k.str k.ref] w fun e w' => e = .returned (.int .i64 (t.at k)) ∧ Below w.heap.size w w' := by
  obtain ⟨W, hW⟩ : ∃ W, W = w.alloc (.cells #[.int .i64 k.kind, .int .i64 k.num, .float .f64 k.flt, .string k.str, .int .i64 k.ref] 46) := ⟨_, rfl⟩
  have hb0 : Below w.heap.size w W := by rw [hW]; exact (Below.refl _ _).alloc (Nat.le_refl _) _
  have hK : VBx W w.heap.size k := ⟨by rw [hW]; simp, by rw [hW]; simp [go_sem], by rw [hW]; simp [go_sem], by rw [hW]; simp [go_sem], by rw [hW]; simp [go_sem], by rw [hW]; simp [go_sem]⟩
  have HP := hide (hT.below hb0).row
  obtain ⟨hl, c0, c1, _⟩ := hT
  have HK := hide hK
  have HB := hide hb0
  clear hK hb0
  go_enter Tryz.func64, Tryz.ntmps64
  go_wp2_with fail
  rw [← hW]
  clear hW
  refine (indexFunc_any a cp t k w.heap.size _ (unhide HP) hn (unhide HK)).mono ?_
  rintro e w1 ⟨rfl, hb1⟩
  go_wp2_with fail
  go_ret
  exact ⟨rfl, (unhide HB).trans (hb1.mono (unhide HB).size)⟩

set_option maxRecDepth 100000 in
set_option maxHeartbeats 4000000 in
theorem plGet_any (c o : Nat) (a : Option Addr) (cp : Nat) (t : Pl) (k : Vl) (w : World) (hT : TPt w c o a cp t) (hn : t.n ≤ 500) :
    Calls Tryz.prog 69 #[.pointer (some ⟨c, o, none⟩), V k.kind k.num k.flt k.str k.ref] w fun e w' => e = .returned (V (t.get k).kind (t.get k).num (t.get k).flt (t.get k).str (t.get k).ref) ∧ Below w.heap.size w w' := by
  obtain ⟨W, hW⟩ : ∃ W, W = (w.alloc (.cells #[.int .i64 k.kind, .int .i64 k.num, .float .f64 k.flt, .string k.str, .int .i64 k.ref] 46)).alloc (.cells #[.int .i64 0, .int .i64 0, .float .f64 0, .string ⟨#[]⟩, .int .i64 0] 46) := ⟨_, rfl⟩
  have hb0 : Below w.heap.size w W := by rw [hW]; exact ((Below.refl _ _).alloc (Nat.le_refl _) _).alloc (by simp) _
  have hK : VBx W w.heap.size k := ⟨by rw [hW]; simp; omega, by rw [hW]; simp [go_sem], by rw [hW]; simp [go_sem], by rw [hW]; simp [go_sem], by rw [hW]; simp [go_sem], by rw [hW]; simp [go_sem]⟩
  have hR : VBx W (w.heap.size + 1) nov := ⟨by rw [hW]; simp, by rw [hW]; simp [go_sem], by rw [hW]; simp [go_sem], by rw [hW]; simp [go_sem], by rw [hW]; simp [go_sem], by rw [hW]; simp [go_sem]⟩
  have hF : ∀ q, W.frozen? ⟨w.heap.size + 1, q, none⟩ = false := fun q => by rw [hW]; simp [go_sem]
  have hTW := hT.below hb0
  have HT := hide hTW
  have HB := hide hb0
  have HR := hide hR
  have HF := hide hF
  obtain ⟨kl, k0, k1, k2, k3, k4⟩ := hK
  clear hTW hb0 hT hR hF
  go_enter Tryz.func69, Tryz.ntmps69
  go_wp2_with fail
  rw [← hW]
  clear hW
  go_wp2_with fail
  refine (find_any c o a cp t k _ (unhide HT) hn).mono ?_
  rintro e w1 ⟨rfl, hb1⟩
  obtain ⟨hl, c0, c1, hP⟩ := (unhide HT).below hb1
  obtain ⟨rl, r0, r1, r2, r3, r4⟩ := (unhide HR).below hb1 (unhide HR).lt
  have f0 := (hb1.frozen (p := ⟨w.heap.size + 1, 0, none⟩) (unhide HR).lt).trans (unhide HF 0)
  have f1 := (hb1.frozen (p := ⟨w.heap.size + 1, 1, none⟩) (unhide HR).lt).trans (unhide HF 1)
  have f2 := (hb1.frozen (p := ⟨w.heap.size + 1, 2, none⟩) (unhide HR).lt).trans (unhide HF 2)
  have f3 := (hb1.frozen (p := ⟨w.heap.size + 1, 3, none⟩) (unhide HR).lt).trans (unhide HF 3)
  have f4 := (hb1.frozen (p := ⟨w.heap.size + 1, 4, none⟩) (unhide HR).lt).trans (unhide HF 4)
  have HB1 := hide ((unhide HB).trans (hb1.mono (unhide HB).size))
  have HP := hide hP
  clear hb1 hP k0 k1 k2 k3 k4 kl
  rcases t.at_rng k with e | ⟨j, e, hj⟩
  · have HG : Hid (t.get k = nov) := hide (by unfold Pl.get; rw [e, if_pos (by omega)])
    rw [e]
    go_wp2_with fail
    exact bodyPost_ret (v := V 0 0 0 ⟨#[]⟩ 0) (by simp [results, Tryz.results69, go_sem, r0, r1, r2, r3, r4]) rfl ⟨by rw [unhide HG], below_set5 (unhide HB1) _ (by omega) _ _ _ _ _⟩
  · have HG : Hid (t.get k = (t.P j).val) := hide (by unfold Pl.get; rw [e, if_neg (by omega), Int.toNat_natCast])
    rw [e]
    obtain ⟨b, off, rfl, hbl, hcs⟩ := (unhide HP).resolve_left (by omega)
    obtain ⟨e0, e1, e2, e3, e4, e5, e6, e7, e8, e9, e10⟩ := hcs j hj
    clear hcs
    go_wp2_with fail
    exact bodyPost_ret (v := V (t.P j).val.kind (t.P j).val.num (t.P j).val.flt (t.P j).val.str (t.P j).val.ref) (by simp [results, Tryz.results69, go_sem, r0, r1, r2, r3, r4]) rfl ⟨by rw [unhide HG], below_set5 (unhide HB1) _ (by omega) _ _ _ _ _⟩
end Go.Proofs.YtnjgebncghdajaaGreatDoor
namespace Go.Proofs.YtnjgebncghdajaaGreatDoor
open Go.RowKit
set_option linter.unusedVariables false
attribute [local go_sem] run_store_float run_equalIn_float

set_option maxRecDepth 100000 in
set_option maxHeartbeats 4000000 in
theorem plAfter_any (c o : Nat) (a : Option Addr) (cp : Nat) (t : Pl) (m : Int) (w : World) (hT : TPt w c o a cp t) (hn : t.n ≤ 500) :
    Calls Tryz.prog 70 #[.pointer (some ⟨c, o, none⟩), .int .i64 m] w fun e w' => e = .returned (PV (t.next m)) ∧ Below w.heap.size w w' := by
  obtain ⟨hl, c0, c1, hP⟩ := hT
  have HP := hide hP
  clear hP
  go_enter Tryz.func70, Tryz.ntmps70
  go_wp2
  go_loopw [12] (fun i wr => ∃ k : Nat, k ≤ t.n ∧ i = .int .i64 k ∧ t.nextI m = atF (fun j => decide (m < (t.P j).turn)) (t.n - k) k ∧ w.heap.size < wr.heap.size ∧ (∀ o, o < 11 → wr.cell? ⟨w.heap.size, o, none⟩ = (w.alloc (.cells #[.int .i64 0, .int .i64 0, .float .f64 0, .string ⟨#[]⟩, .int .i64 0, .int .i64 0, .int .i64 0, .float .f64 0, .string ⟨#[]⟩, .int .i64 0, .int .i64 0] 95)).cell? ⟨w.heap.size, o, none⟩) ∧ (∀ o, wr.frozen? ⟨w.heap.size, o, none⟩ = false) ∧ Below w.heap.size w wr) (fun i _ => t.n - (intOf i).toNat)
  case atStart => exact ⟨0, by omega, rfl, rfl, by simp, fun o _ => rfl, fun o => by simp [go_sem], (Below.refl _ _).alloc (Nat.le_refl _) _⟩
  case round =>
    obtain ⟨k, hk, rfl, hat, hz, hcl, hfr, hb⟩ := hrel
    have HAT := hide hat
    have HCL := hide hcl
    have r1 := (hcl 0 (by omega)).trans (by simp [go_sem] : _ = some (.int .i64 0))
    have r2 := (hcl 1 (by omega)).trans (by simp [go_sem] : _ = some (.int .i64 0))
    have r3 := (hcl 2 (by omega)).trans (by simp [go_sem] : _ = some (.float .f64 0))
    have r4 := (hcl 3 (by omega)).trans (by simp [go_sem] : _ = some (.string ⟨#[]⟩))
    have r5 := (hcl 4 (by omega)).trans (by simp [go_sem] : _ = some (.int .i64 0))
    have r6 := (hcl 5 (by omega)).trans (by simp [go_sem] : _ = some (.int .i64 0))
    have r7 := (hcl 6 (by omega)).trans (by simp [go_sem] : _ = some (.int .i64 0))
    have r8 := (hcl 7 (by omega)).trans (by simp [go_sem] : _ = some (.float .f64 0))
    have r9 := (hcl 8 (by omega)).trans (by simp [go_sem] : _ = some (.string ⟨#[]⟩))
    have r10 := (hcl 9 (by omega)).trans (by simp [go_sem] : _ = some (.int .i64 0))
    have r11 := (hcl 10 (by omega)).trans (by simp [go_sem] : _ = some (.int .i64 0))
    clear hat hcl
    by_cases hkn : k < t.n
    · obtain ⟨b, off, rfl, hbl, hcs⟩ := (unhide HP).resolve_left (by omega)
      obtain ⟨e0, e1, e2, e3, e4, e5, e6, e7, e8, e9, e10⟩ := (hcs k hkn).keep (fun q => hb.cell (p := ⟨b, q, none⟩) hbl)
      have HB := hide hb
      clear hcs hb
      by_cases ht : m < (t.P k).turn
      · have HR : Hid (t.next m = t.P k) := hide (by
          have h : t.nextI m = k := (unhide HAT).trans (atF_hit hkn (by simp [ht]))
          unfold Pl.next
          rw [h, if_neg (by omega)]
          simp)
        go_wp2
        refine bodyPost_ret (v := PV (t.P k)) (by simp [results, Tryz.results70, go_sem, hz, r1, r2, r3, r4, r5, r6, r7, r8, r9, r10, r11]) rfl ⟨by rw [unhide HR], ?_⟩
        refine Below.alloc ?_ (by have := (unhide HB).size; simpa using this) _
        iterate 11 (refine Below.setCell ?_ (by exact Nat.le_refl _) _)
        exact unhide HB
      · have HN := hide ((unhide HAT).trans (atF_miss hkn (by simp; omega)))
        go_wp2
        go_roundw
        case rel => exact ⟨k + 1, by omega, by go_num, unhide HN, by simp; omega, fun o ho => (World.cell?_alloc_lt _ _ _ (by exact hz)).trans (unhide HCL o ho), fun o => (((Below.refl wr.heap.size wr).alloc (Nat.le_refl _) _).frozen (p := ⟨w.heap.size, o, none⟩) hz).trans (hfr o), (unhide HB).alloc (unhide HB).size _⟩
        case measure => simp [intOf]; omega
    · have HR : Hid (t.next m = ⟨nov, nov, 0⟩) := hide (by
        have h : t.nextI m = -1 := (unhide HAT).trans (atF_end hkn)
        unfold Pl.next
        rw [h, if_pos (by omega)])
      have hke : k = t.n := by omega
      subst hke
      have HB := hide hb
      clear hb hkn
      go_wp2
      refine bodyPost_ret (v := PV ⟨nov, nov, 0⟩) (by simp [results, Tryz.results70, go_sem, r1, r2, r3, r4, r5, r6, r7, r8, r9, r10, r11]) rfl ⟨by rw [unhide HR], ?_⟩
      iterate 11 (refine Below.setCell ?_ (by exact Nat.le_refl _) _)
      exact unhide HB

set_option maxHeartbeats 1000000 in
theorem intValue_iv (n : Int) (w : World) :
    Calls Tryz.prog 91 #[.int .i64 n] w fun e w' => e = .returned (V (intV n).kind (intV n).num (intV n).flt (intV n).str (intV n).ref) ∧ Below w.heap.size w w' := intValue_any n w

set_option maxRecDepth 100000 in
set_option maxHeartbeats 4000000 in
theorem plLen_any (c o : Nat) (a : Option Addr) (cp : Nat) (t : Pl) (w : World) (hT : TPt w c o a cp t) (hG : t.Good) :
    Calls Tryz.prog 71 #[.pointer (some ⟨c, o, none⟩)] w fun e w' => e = .returned (.int .i64 (t.len : Int)) ∧ Below w.heap.size w w' := by
  have hn := hG.n
  have HT := hide hT
  have HG := hide hG
  clear hT hG
  go_enter Tryz.func71, Tryz.ntmps71
  go_wp2_with fail
  go_loopw [3] (fun i wr => ∃ m : Nat, (∀ j, j < m → t.has ((j : Int) + 1) = true) ∧ i = .int .i64 m ∧ Below w.heap.size w wr) (fun i _ => 501 - (intOf i).toNat)
  case atStart => exact ⟨0, fun j hj => absurd hj (Nat.not_lt_zero _), rfl, Below.refl _ _⟩
  case round =>
    obtain ⟨m, hm, rfl, hb⟩ := hrel
    have hmn := Pl.has_le hm
    have hsz := hb.size
    have HB := hide hb
    have HM := hide hm
    have HTr := hide ((unhide HT).below hb)
    clear hb hm
    go_wp2_with fail
    refine (intValue_iv _ _).mono ?_
    rintro e w1 ⟨rfl, hb1⟩
    have HT1 := hide ((unhide HTr).below hb1)
    have HB1 := hide ((unhide HB).trans (hb1.mono hsz))
    clear hb1
    go_wp2_with fail
    refine (find_any c o a cp t (intV ((m : Int) + 1)) _ (unhide HT1) hn).mono ?_
    rintro e w2 ⟨rfl, hb2⟩
    have HB2 := hide ((unhide HB1).trans (hb2.mono (unhide HB1).size))
    have hd := (unhide HG).at_int ((m : Int) + 1)
    clear hb2
    cases hh : t.has ((m : Int) + 1)
    · have HL := hide (Pl.len_is (unhide HM) hh)
      rw [hh] at hd
      go_wp2_with fail
      go_ret
      exact ⟨by rw [unhide HL]; rfl, unhide HB2⟩
    · have HM2 : Hid (∀ j, j < m + 1 → t.has ((j : Int) + 1) = true) := hide (fun j hj => by
        rcases (by omega : j < m ∨ j = m) with h | rfl
        · exact unhide HM j h
        · exact hh)
      have hm2 := Pl.has_le (unhide HM2)
      rw [hh] at hd
      go_wp2_with fail
      go_roundw
      case rel => exact ⟨m + 1, unhide HM2, by go_num, unhide HB2⟩
      case measure => simp [intOf]; omega
end Go.Proofs.YtnjgebncghdajaaGreatDoor
