/-
  The drawing cursor: next and pick.
-/
import Derived.Test.YtgiegkigfokdmaaChecked
import GoSem.Claim
import GoSem.ClaimJoined
import GoSem.ClaimMapViews
import Derived.JoinedTies
import Derived.KernelRfl
import Derived.RowKit
import Derived.WalkKit
import Derived.WalkSpells
import Derived.WalkLawsBesides
import Derived.Deep.QuietTactic
import Derived.BigQuiet
import Derived.Test.YtgiegkigfokdmaaHashA
import Derived.Laws.BitsAllLaws
namespace Go.Proofs.Ytgiegkigfokdmaa
open Go.RowKit
set_option linter.unusedVariables false

/-- The bytes that are drawn from: nil, or a row of cells below the cursor. -/
def CodeAt (w : World) (b : Nat) (a : Option Addr) (len : Nat) : Prop :=
  len < 9007199254740992 ∧ (len = 0 ∨ ∃ k off, a = some ⟨k, off, none⟩ ∧ k < b ∧ ∀ i, i < len → ∃ z : Int, w.cell? ⟨k, off + i, none⟩ = some (.int .u8 z) ∧ 0 ≤ z ∧ z < 256)

/-- A cursor at block b, which has gone on at most N times. -/
structure Cu (b N : Nat) (w : World) : Prop where
  ex : ∃ a len cap at_ seed, w.cell? ⟨b, 0, none⟩ = some (.slice a len cap) ∧ w.cell? ⟨b, 1, none⟩ = some (.int .i64 at_) ∧ w.cell? ⟨b, 2, none⟩ = some (.int .u64 seed) ∧ 0 ≤ at_ ∧ at_ ≤ N ∧ 0 ≤ seed ∧ seed < 18446744073709551616 ∧ CodeAt w b a len
  fz : ∀ o, w.frozen? ⟨b, o, none⟩ = false

/-- Nothing but block b has turned, and draws. -/
structure Stp (b : Nat) (w w' : World) : Prop where
  os : w'.os = w.os
  tape : w'.tape = w.tape
  output : w'.output = w.output
  size : w'.heap.size = w.heap.size
  block : ∀ k, k ≠ b → w'.heap[k]? = w.heap[k]?

theorem Stp.refl (b : Nat) (w : World) : Stp b w w := ⟨rfl, rfl, rfl, rfl, fun _ _ => rfl⟩
theorem Stp.trans {b : Nat} {u v w : World} (h : Stp b u v) (k : Stp b v w) : Stp b u w :=
  ⟨k.os.trans h.os, k.tape.trans h.tape, k.output.trans h.output, k.size.trans h.size, fun i hi => (k.block i hi).trans (h.block i hi)⟩
theorem Stp.cell {b : Nat} {w w' : World} (h : Stp b w w') (k o : Nat) (hk : k ≠ b) : w'.cell? ⟨k, o, none⟩ = w.cell? ⟨k, o, none⟩ := World.cell?_of_block (w := w) (h.block k hk)
theorem Stp.frozen {b : Nat} {w w' : World} (h : Stp b w w') (k o : Nat) (hk : k ≠ b) : w'.frozen? ⟨k, o, none⟩ = w.frozen? ⟨k, o, none⟩ := World.frozen?_of_block (w := w) (h.block k hk)
theorem Stp.below {b B : Nat} {w w' : World} (h : Stp b w w') (hB : B ≤ b) : Below B w w' := ⟨h.os, h.tape, h.output, by rw [h.size]; exact Nat.le_refl _, fun k hk => h.block k (by omega)⟩

theorem stp_set (b o : Nat) (w : World) (v : Value) : Stp b w (w.setCell ⟨b, o, none⟩ v) :=
  ⟨rfl, rfl, rfl, by simp [World.setCell], fun k hk => Below.heap_setCell _ _ _ _ (by simpa using hk)⟩
theorem stp_drewN (b n : Nat) (w : World) : Stp b w (w.drewN n) := ⟨rfl, rfl, rfl, rfl, fun _ _ => rfl⟩
theorem stp_two (b o o' n : Nat) (w : World) (v v' : Value) : Stp b w (((w.drewN n).setCell ⟨b, o, none⟩ v).setCell ⟨b, o', none⟩ v') :=
  ((stp_drewN b n w).trans (stp_set b o _ v)).trans (stp_set b o' _ v')

theorem CodeAt.stp {b : Nat} {w w' : World} {a : Option Addr} {len : Nat} (h : CodeAt w b a len) (s : Stp b w w') : CodeAt w' b a len := by
  refine ⟨h.1, ?_⟩
  rcases h.2 with h | ⟨k, off, e, hk, hc⟩
  · exact .inl h
  · refine .inr ⟨k, off, e, hk, fun i hi => ?_⟩
    obtain ⟨z, h1, h2⟩ := hc i hi
    exact ⟨z, by rw [s.cell k _ (by omega)]; exact h1, h2⟩

/-- The cursor behind a step. -/
theorem cu_two {b N : Nat} {w : World} {a : Option Addr} {len cap : Nat} {at_ seed : Int} (fz : ∀ o, w.frozen? ⟨b, o, none⟩ = false)
    (h0 : w.cell? ⟨b, 0, none⟩ = some (.slice a len cap)) (h1 : w.cell? ⟨b, 1, none⟩ = some (.int .i64 at_)) (h2 : w.cell? ⟨b, 2, none⟩ = some (.int .u64 seed))
    (ha0 : 0 ≤ at_) (ha1 : at_ ≤ N) (hc : CodeAt w b a len) (n : Nat) (s : Int) (hs0 : 0 ≤ s) (hs1 : s < 18446744073709551616) :
    Cu b (N + 1) (((w.drewN n).setCell ⟨b, 1, none⟩ (.int .i64 (at_ + 1))).setCell ⟨b, 2, none⟩ (.int .u64 s)) ∧ Cu b (N + 1) (((w.drewN n).setCell ⟨b, 2, none⟩ (.int .u64 s)).setCell ⟨b, 1, none⟩ (.int .i64 (at_ + 1))) := by
  constructor
  · exact ⟨⟨a, len, cap, at_ + 1, s, by simp [go_sem, h0], by simp [go_sem, h1], by simp [go_sem, h2], by omega, by omega, hs0, hs1, hc.stp (stp_two b 1 2 n w _ _)⟩, fun o => by simp [go_sem, fz]⟩
  · exact ⟨⟨a, len, cap, at_ + 1, s, by simp [go_sem, h0], by simp [go_sem, h1], by simp [go_sem, h2], by omega, by omega, hs0, hs1, hc.stp (stp_two b 2 1 n w _ _)⟩, fun o => by simp [go_sem, fz]⟩

set_option maxHeartbeats 1000000 in
theorem next_in (b N : Nat) (len cap : Nat) (at_ seed z : Int) (k off : Nat) (w : World) (fz : ∀ o, w.frozen? ⟨b, o, none⟩ = false) (hcode : CodeAt w b (some ⟨k, off, none⟩) len)
    (h0 : w.cell? ⟨b, 0, none⟩ = some (.slice (some ⟨k, off, none⟩) len cap)) (h1 : w.cell? ⟨b, 1, none⟩ = some (.int .i64 at_)) (h2 : w.cell? ⟨b, 2, none⟩ = some (.int .u64 seed))
    (ha0 : 0 ≤ at_) (ha1 : at_ ≤ N) (hN : N ≤ 1099511627776) (hlt : at_ < len) (hlen : (len : Int) < 9007199254740992) (hk : k < b) (hz0 : 0 ≤ z) (hz1 : z < 256)
    (hc : w.cell? ⟨k, off + at_.toNat, none⟩ = some (.int .u8 z)) :
    Calls Try.prog 43 #[.pointer (some ⟨b, 0, none⟩)] w fun e w' => e = .returned (.int .i64 z) ∧ Cu b (N + 1) w' ∧ Stp b w w' := by
  have hkb : ¬ k = b := by omega
  have f1 := fz 1
  have f2 := fz 2
  have FZ : Hid (∀ o, w.frozen? ⟨b, o, none⟩ = false) := fz
  have HC : Hid (CodeAt w b (some ⟨k, off, none⟩) len) := hcode
  clear fz hcode
  go_enter Try.func43, Try.ntmps43
  go_wp2
  go_quiet (fail)
  go_wp2
  go_quiet (fail)
  go_wp2
  go_ret
  have hr := wrap_u64_range (IntKind.u64.wrap (IntKind.u64.wrap (seed * 6364136223846793005) + z) + 1442695040888963407)
  exact ⟨rfl, (cu_two FZ.out h0 h1 h2 ha0 ha1 HC.out _ _ hr.1 hr.2).1, stp_two _ _ _ _ _ _ _⟩

theorem and255 (X : Int) (h0 : 0 ≤ X) (h1 : X < 18446744073709551616) : 0 ≤ wrap64 (bits BinOp.and IntKind.u64 X 255) ∧ wrap64 (bits BinOp.and IntKind.u64 X 255) < 256 := by
  have h := u64_and X 255 h0 h1 (by omega) (by omega)
  have e : (255 : Int).toNat = 2 ^ 8 - 1 := by decide
  rw [e, Nat.and_two_pow_sub_one_eq_mod] at h
  rw [h]
  have hm : X.toNat % 2 ^ 8 < 256 := Nat.mod_lt _ (by decide)
  generalize X.toNat % 2 ^ 8 = q at hm
  have : wrap64 (q : Int) = q := by unfold wrap64; omega
  rw [this]; omega

set_option maxHeartbeats 1000000 in
theorem next_out (b N : Nat) (a : Option Addr) (len cap : Nat) (at_ seed : Int) (w : World) (fz : ∀ o, w.frozen? ⟨b, o, none⟩ = false) (hcode : CodeAt w b a len)
    (h0 : w.cell? ⟨b, 0, none⟩ = some (.slice a len cap)) (h1 : w.cell? ⟨b, 1, none⟩ = some (.int .i64 at_)) (h2 : w.cell? ⟨b, 2, none⟩ = some (.int .u64 seed))
    (ha0 : 0 ≤ at_) (ha1 : at_ ≤ N) (hN : N ≤ 1099511627776) (hlt : (len : Int) ≤ at_) :
    Calls Try.prog 43 #[.pointer (some ⟨b, 0, none⟩)] w fun e w' => (∃ z : Int, e = .returned (.int .i64 z) ∧ 0 ≤ z ∧ z < 256) ∧ Cu b (N + 1) w' ∧ Stp b w w' := by
  have f1 := fz 1
  have f2 := fz 2
  have FZ : Hid (∀ o, w.frozen? ⟨b, o, none⟩ = false) := fz
  have HC : Hid (CodeAt w b a len) := hcode
  clear fz hcode
  go_enter Try.func43, Try.ntmps43
  go_wp2
  go_quiet (fail)
  go_wp2
  go_ret
  have hr := wrap_u64_range (IntKind.u64.wrap (seed * 6364136223846793005) + 1442695040888963407)
  have h2 := and255 (IntKind.u64.wrap (IntKind.u64.wrap (seed * 6364136223846793005) + 1442695040888963407) / 1099511627776) (by omega) (by omega)
  exact ⟨⟨_, rfl, h2.1, h2.2⟩, (cu_two FZ.out h0 h1 ‹_› ha0 ha1 HC.out _ _ hr.1 hr.2).2, stp_two _ _ _ _ _ _ _⟩

theorem next_any (b N : Nat) (w : World) (h : Cu b N w) (hN : N ≤ 1099511627776) :
    Calls Try.prog 43 #[.pointer (some ⟨b, 0, none⟩)] w fun e w' => (∃ z : Int, e = .returned (.int .i64 z) ∧ 0 ≤ z ∧ z < 256) ∧ Cu b (N + 1) w' ∧ Stp b w w' := by
  obtain ⟨a, len, cap, at_, seed, h0, h1, h2, ha0, ha1, _, _, hc⟩ := h.ex
  by_cases hlt : at_ < len
  · rcases hc.2 with e | ⟨k, off, rfl, hk, hcc⟩
    · subst e; exfalso; simp at hlt; omega
    · obtain ⟨z, hz, hz0, hz1⟩ := hcc at_.toNat (by omega)
      refine (next_in b N len cap at_ seed z k off w h.fz hc h0 h1 h2 ha0 ha1 hN hlt (by have := hc.1; omega) hk hz0 hz1 hz).mono ?_
      rintro e w' ⟨rfl, h3⟩
      exact ⟨⟨z, rfl, hz0, hz1⟩, h3⟩
  · exact next_out b N a len cap at_ seed w h.fz hc h0 h1 h2 ha0 ha1 hN (by omega)

set_option maxHeartbeats 1000000 in
theorem pick_any (b N : Nat) (n : Int) (w : World) (h : Cu b N w) (hN : N ≤ 1099511627000) (hn1 : 1 < n) (hn2 : n ≤ 70000) :
    Calls Try.prog 19 #[.pointer (some ⟨b, 0, none⟩), .int .i64 n] w fun e w' => (∃ x : Int, e = .returned (.int .i64 x) ∧ 0 ≤ x ∧ x < n) ∧ Cu b (N + 2) w' ∧ Stp b w w' := by
  have H : Hid (Cu b N w) := h
  clear h
  by_cases hs : n ≤ 200
  · go_enter Try.func19, Try.ntmps19
    go_wp2_with fail
    refine (next_any b N _ H.out (by omega)).mono ?_
    rintro e w1 ⟨⟨z, rfl, hz0, hz1⟩, hc1, hs1⟩
    go_wp2_with fail
    go_ret
    refine ⟨⟨_, rfl, ?_, ?_⟩, ⟨?_, hc1.fz⟩, hs1⟩
    · exact Int.emod_nonneg _ (by omega)
    · exact Int.emod_lt_of_pos _ (by omega)
    · obtain ⟨a, len, cap, at_, seed, h0, h1, h2, ha0, ha1, r⟩ := hc1.ex
      exact ⟨a, len, cap, at_, seed, h0, h1, h2, ha0, by omega, r⟩
  · have hs' : 200 < n := by omega
    go_enter Try.func19, Try.ntmps19
    go_wp2_with fail
    refine (next_any b N _ H.out (by omega)).mono ?_
    rintro e w1 ⟨⟨z, rfl, hz0, hz1⟩, hc1, hs1⟩
    go_wp2_with fail
    refine (next_any b (N + 1) _ hc1 (by omega)).mono ?_
    rintro e w2 ⟨⟨y, rfl, hy0, hy1⟩, hc2, hs2⟩
    go_wp2_with fail
    go_ret
    refine ⟨⟨_, rfl, ?_, ?_⟩, hc2, hs1.trans hs2⟩
    · exact Int.emod_nonneg _ (by omega)
    · exact Int.emod_lt_of_pos _ (by omega)
end Go.Proofs.Ytgiegkigfokdmaa
