/-
  The law of keys: the walk.
-/
import Derived.Test.YtgiegkigfokdmaaDoorKeyW
import Derived.Test.YtgiegkigfokdmaaDoorCurD
import Derived.Test.YtgiegkigfokdmaaDoorKeyF
namespace Go.Proofs.YtgiegkigfokdmaaDoor
open Go.RowKit
set_option linter.unusedVariables false
attribute [local go_sem] run_store_float run_equalIn_float

/-- HashOf, both, as a number of what KeyOf gives. -/
def hz (c k n : Int) (f : Nat) (t : ByteArray) (r : Int) : Int := if c = 0 then wrap64 (hashI k n f t r) else 0

theorem ihash_is (kind num : Int) (flt : Nat) (s : ByteArray) (ref : Int) {c k n : Int} {f : Nat} {t : ByteArray} {r : Int} (hk : keyV kind num flt s ref = KV c k n f t r) (hh : c = 0 → HK k f t) (w : World) (hT : Tabs w) :
    Calls Tryd.prog 18 #[V kind num flt s ref] w fun e w' => e = .returned (.int .i64 (hz c k n f t r)) ∧ Below w.heap.size w w' := by
  by_cases hc : c = 0
  · subst hc
    have : hz 0 k n f t r = wrap64 (hashI k n f t r) := if_pos rfl
    rw [this]; exact ihash_yes kind num flt s ref k n f t r w hk (hh rfl) hT
  · have : hz c k n f t r = 0 := if_neg hc
    rw [this]; exact ihash_no kind num flt s ref c k n f t r w hk (by simp [hc])
theorem shash_is (kind num : Int) (flt : Nat) (s : ByteArray) (ref : Int) {c k n : Int} {f : Nat} {t : ByteArray} {r : Int} (hk : keyV kind num flt s ref = KV c k n f t r) (hh : c = 0 → HK k f t) (w : World) :
    Calls Tryd.prog 19 #[V kind num flt s ref] w fun e w' => e = .returned (.int .i64 (hz c k n f t r)) ∧ Below w.heap.size w w' := by
  by_cases hc : c = 0
  · subst hc
    have : hz 0 k n f t r = wrap64 (hashI k n f t r) := if_pos rfl
    rw [this]; exact shash_yes kind num flt s ref k n f t r w hk (hh rfl)
  · have : hz c k n f t r = 0 := if_neg hc
    rw [this]; exact shash_no kind num flt s ref c k n f t r w hk (by simp [hc])

theorem hk_int : HK 2 0 ⟨#[]⟩ := ⟨by unfold maxLen; decide, by omega, by omega, fun h => by omega⟩

set_option maxHeartbeats 400000 in
theorem wByte_zero (a : Option Addr) (len cap : Nat) (w : World) {b : Nat} (hcode : CodeAt w b a len) (hle : (len : Int) ≤ 1048576) :
    Calls Tryd.prog 7 #[.slice a len cap, .int .i64 0] w fun e w' => (∃ z : Int, e = .returned (.int .i64 z) ∧ 0 ≤ z ∧ z < 256) ∧ w' = w := by
  rcases hcode.2 with rfl | ⟨k, off, rfl, hk, hc⟩
  · clear hcode
    go_enter Tryd.func7, Tryd.ntmps7
    go_wp2
    go_ret
    exact ⟨⟨0, rfl, by omega, by omega⟩, rfl⟩
  · by_cases h0 : len = 0
    · subst h0
      clear hcode hc
      go_enter Tryd.func7, Tryd.ntmps7
      go_wp2
      go_ret
      exact ⟨⟨0, rfl, by omega, by omega⟩, rfl⟩
    · obtain ⟨z, hz, hz0, hz1⟩ := hc 0 (by omega)
      have hne : ((len : Int) == 0) = false := by simp; omega
      have hp : (0 : Int) < (len : Int) := by omega
      rw [Nat.add_zero] at hz
      clear hcode hc
      go_enter Tryd.func7, Tryd.ntmps7
      go_wp2
      go_ret
      exact ⟨⟨z, rfl, hz0, hz1⟩, rfl⟩

theorem field_is (k n : Int) (f : Nat) (t : ByteArray) (r : Int) (w : World) : (Instr.field 40 (KV 0 k n f t r) 1).run Tryd.prog w = .ok (V k n f t r) w := by kernel_rfl

set_option maxRecDepth 100000 in
set_option maxHeartbeats 2000000 in
theorem law_keys (a : Option Addr) (len cap : Nat) (w : World) (hcode : CodeAt w w.heap.size a len) (hle : (len : Int) ≤ 1048576) (hT : Tabs w) :
    Calls Tryd.prog 5 #[.slice a len cap] w fun e w' => e = .returned (.bool true) ∧ Below w.heap.size w w' := by
  have HCode := hide hcode
  have HT := hide hT
  clear hcode hT
  go_enter Tryd.func5, Tryd.ntmps5
  go_wp2_with fail
  refine (drawKey_any a len cap _ (unhide HCode)).mono ?_
  rintro e w1 ⟨⟨kind, num, flt, s, ref, rfl, hsz, hf⟩, hb1⟩
  have hz1 := hb1.size
  obtain ⟨c, k, n, f, t, r, hk, hh⟩ := keyV_hash kind num flt s ref (by unfold maxLen; omega) hf
  have HK' := hide hk
  have HH := hide hh
  have B1 := hide hb1
  clear hk hh hb1
  go_wp2_with fail
  refine (ikey_any kind num flt s ref _).mono ?_
  rintro e w2 ⟨rfl, hb2⟩
  rw [unhide HK']
  obtain ⟨hc2, hf2⟩ := bcell hb2
  have hz2 := hb2.size
  simp at hz2
  have y2 : w1.heap.size < w2.heap.size := by omega
  have B2 := hide (((unhide B1).alloc hz1 (.cells #[.int .i64 kind, .int .i64 num, .float .f64 flt, .string s, .int .i64 ref] 32)).trans (hb2.mono (by simp; omega)))
  clear hb2
  go_wp2_with fail
  refine (skey_any kind num flt s ref _).mono ?_
  rintro e w3 ⟨rfl, hb3⟩
  rw [unhide HK']
  obtain ⟨hc3, hf3⟩ := bcell hb3
  have hz3 := hb3.size
  simp at hz3
  have y3 : w1.heap.size < w3.heap.size := by omega
  have y3' : w2.heap.size < w3.heap.size := by omega
  have B3 := hide (((unhide B2).alloc (by omega) (.cells #[.int .i64 c, .int .i64 k, .int .i64 n, .float .f64 f, .string t, .int .i64 r] 40)).trans (hb3.mono (by simp; omega)))
  clear hb3
  go_wp2_with fail
  obtain ⟨W, hW⟩ : ∃ W, W = w3.alloc (.cells #[.int .i64 c, .int .i64 k, .int .i64 n, .float .f64 f, .string t, .int .i64 r] 40) := ⟨_, rfl⟩
  rw [← hW]
  have BW := hide (show Below w.heap.size w W from by rw [hW]; exact (unhide B3).alloc (by omega) _)
  have hzW : w3.heap.size < W.heap.size := by rw [hW]; simp
  have q1 : w1.heap.size < W.heap.size := by omega
  have q2 : w2.heap.size < W.heap.size := by omega
  have v0 : W.cell? ⟨w1.heap.size, 0, none⟩ = some (.int .i64 kind) := by rw [hW]; simp [go_sem, hc2, hc3, y2, y3]
  have v1 : W.cell? ⟨w1.heap.size, 1, none⟩ = some (.int .i64 num) := by rw [hW]; simp [go_sem, hc2, hc3, y2, y3]
  have v2 : W.cell? ⟨w1.heap.size, 2, none⟩ = some (.float .f64 flt) := by rw [hW]; simp [go_sem, hc2, hc3, y2, y3]
  have v3 : W.cell? ⟨w1.heap.size, 3, none⟩ = some (.string s) := by rw [hW]; simp [go_sem, hc2, hc3, y2, y3]
  have v4 : W.cell? ⟨w1.heap.size, 4, none⟩ = some (.int .i64 ref) := by rw [hW]; simp [go_sem, hc2, hc3, y2, y3]
  have a0 : W.cell? ⟨w2.heap.size, 0, none⟩ = some (.int .i64 c) := by rw [hW]; simp [go_sem, hc3, y3']
  have a1 : W.cell? ⟨w2.heap.size, 1, none⟩ = some (.int .i64 k) := by rw [hW]; simp [go_sem, hc3, y3']
  have a2 : W.cell? ⟨w2.heap.size, 2, none⟩ = some (.int .i64 n) := by rw [hW]; simp [go_sem, hc3, y3']
  have a3 : W.cell? ⟨w2.heap.size, 3, none⟩ = some (.float .f64 f) := by rw [hW]; simp [go_sem, hc3, y3']
  have a4 : W.cell? ⟨w2.heap.size, 4, none⟩ = some (.string t) := by rw [hW]; simp [go_sem, hc3, y3']
  have a5 : W.cell? ⟨w2.heap.size, 5, none⟩ = some (.int .i64 r) := by rw [hW]; simp [go_sem, hc3, y3']
  have z0 : W.cell? ⟨w3.heap.size, 0, none⟩ = some (.int .i64 c) := by rw [hW]; simp [go_sem]
  have z1 : W.cell? ⟨w3.heap.size, 1, none⟩ = some (.int .i64 k) := by rw [hW]; simp [go_sem]
  have z2 : W.cell? ⟨w3.heap.size, 2, none⟩ = some (.int .i64 n) := by rw [hW]; simp [go_sem]
  have z3 : W.cell? ⟨w3.heap.size, 3, none⟩ = some (.float .f64 f) := by rw [hW]; simp [go_sem]
  have z4 : W.cell? ⟨w3.heap.size, 4, none⟩ = some (.string t) := by rw [hW]; simp [go_sem]
  have z5 : W.cell? ⟨w3.heap.size, 5, none⟩ = some (.int .i64 r) := by rw [hW]; simp [go_sem]
  clear hc2 hf2 hc3 hf3 B1 B2 B3 hW y2 y3 y3' hz2 hz3
  refine wp_region_quiet (C := fun w' => Below W.heap.size W w') (by kernel_rfl) (by kernel_rfl) ((Below.refl _ _).drew) ?_
  show wpQuiet _ _ _ _ [_, _, _, _, _, _, _, _, _, _, _, _, _, _, _, _, _, _, _, _] _
  refine wpQuiet_step (fun K hK => ?_)
  go_simp
  refine ⟨_, fun w' hw' => rfl, hK _ ?_⟩
  clear hK K
  refine wpQuiet_step (fun K hK => ?_)
  go_simp
  apply Exists.intro
  refine And.intro (fun w' hw' => ?_) (hK _ ?_)
  · obtain ⟨hc', hf'⟩ := bcell hw'
    go_simp
    first | rfl | exact ⟨rfl, rfl⟩ | exact ⟨rfl⟩
  clear hK K
  refine wpQuiet_step (fun K hK => ?_)
  go_simp
  refine ⟨_, fun w' hw' => rfl, hK _ ?_⟩
  clear hK K
  refine wpQuiet_step (fun K hK => ?_)
  go_simp
  apply Exists.intro
  refine And.intro (fun w' hw' => ?_) (hK _ ?_)
  · obtain ⟨hc', hf'⟩ := bcell hw'
    go_simp
    first | rfl | exact ⟨rfl, rfl⟩ | exact ⟨rfl⟩
  clear hK K
  refine wpQuiet_step (fun K hK => ?_)
  go_simp
  refine ⟨_, fun w' hw' => rfl, hK _ ?_⟩
  clear hK K
  refine wpQuiet_step (fun K hK => ?_)
  go_simp
  refine ⟨_, fun w' hw' => rfl, hK _ ?_⟩
  clear hK K
  refine wpQuiet_step (fun K hK => ?_)
  go_simp
  refine ⟨_, fun w' hw' => rfl, hK _ ?_⟩
  clear hK K
  refine wpQuiet_step (fun K hK => ?_)
  go_simp
  apply Exists.intro
  refine And.intro (fun w' hw' => ?_) (hK _ ?_)
  · obtain ⟨hc', hf'⟩ := bcell hw'
    go_simp
    first | rfl | exact ⟨rfl, rfl⟩ | exact ⟨rfl⟩
  clear hK K
  refine wpQuiet_step (fun K hK => ?_)
  go_simp
  refine ⟨_, fun w' hw' => rfl, hK _ ?_⟩
  clear hK K
  refine wpQuiet_step (fun K hK => ?_)
  go_simp
  apply Exists.intro
  refine And.intro (fun w' hw' => ?_) (hK _ ?_)
  · obtain ⟨hc', hf'⟩ := bcell hw'
    go_simp
    first | rfl | exact ⟨rfl, rfl⟩ | exact ⟨rfl⟩
  clear hK K
  refine wpQuiet_step (fun K hK => ?_)
  go_simp
  apply Exists.intro
  refine And.intro (fun w' hw' => ?_) (hK _ ?_)
  · refine (wVal_self k n f t r _).mono ?_
    rintro e w'' ⟨rfl, hb⟩
    exact ⟨rfl, hw'.trans (hb.mono hw'.size)⟩
  clear hK K
  refine wpQuiet_step (fun K hK => ?_)
  go_simp
  refine ⟨_, fun w' hw' => rfl, hK _ ?_⟩
  clear hK K
  refine wpQuiet_step (fun K hK => ?_)
  go_simp
  refine ⟨_, fun w' hw' => rfl, hK _ ?_⟩
  clear hK K
  refine wpQuiet_step (fun K hK => ?_)
  go_simp
  refine ⟨_, fun w' hw' => rfl, hK _ ?_⟩
  clear hK K
  refine wpQuiet_step (fun K hK => ?_)
  go_simp
  apply Exists.intro
  refine And.intro (fun w' hw' => ?_) (hK _ ?_)
  · obtain ⟨hc', hf'⟩ := bcell hw'
    go_simp
    first | rfl | exact ⟨rfl, rfl⟩ | exact ⟨rfl⟩
  clear hK K
  refine wpQuiet_step (fun K hK => ?_)
  go_simp
  apply Exists.intro
  refine And.intro (fun w' hw' => ?_) (hK _ ?_)
  · refine (ihash_is kind num flt s ref (unhide HK') (unhide HH) _ ((unhide HT).below ((unhide BW).trans (hw'.mono (unhide BW).size)) (unhide HT).sz)).mono ?_
    rintro e w'' ⟨rfl, hb⟩
    exact ⟨rfl, hw'.trans (hb.mono hw'.size)⟩
  clear hK K
  refine wpQuiet_step (fun K hK => ?_)
  go_simp
  apply Exists.intro
  refine And.intro (fun w' hw' => ?_) (hK _ ?_)
  · obtain ⟨hc', hf'⟩ := bcell hw'
    go_simp
    first | rfl | exact ⟨rfl, rfl⟩ | exact ⟨rfl⟩
  clear hK K
  refine wpQuiet_step (fun K hK => ?_)
  go_simp
  apply Exists.intro
  refine And.intro (fun w' hw' => ?_) (hK _ ?_)
  · refine (shash_is kind num flt s ref (unhide HK') (unhide HH) _).mono ?_
    rintro e w'' ⟨rfl, hb⟩
    exact ⟨rfl, hw'.trans (hb.mono hw'.size)⟩
  clear hK K
  refine wpQuiet_step (fun K hK => ?_)
  go_simp
  refine ⟨_, fun w' hw' => rfl, hK _ ?_⟩
  clear hK K
  refine wpQuiet_step (fun K hK => ?_)
  go_simp
  refine ⟨_, fun w' hw' => rfl, hK _ ?_⟩
  clear hK K
  refine wpQuiet_nil ?_
  intro W2 hW2
  have BW2 := hide ((unhide BW).trans (hW2.mono (unhide BW).size))
  have p1 : w1.heap.size < W2.heap.size := Nat.lt_of_lt_of_le q1 hW2.size
  have p2 : w2.heap.size < W2.heap.size := Nat.lt_of_lt_of_le q2 hW2.size
  have v0' := (hW2.cell (p := ⟨w1.heap.size, 0, none⟩) q1).trans v0
  have v1' := (hW2.cell (p := ⟨w1.heap.size, 1, none⟩) q1).trans v1
  have v2' := (hW2.cell (p := ⟨w1.heap.size, 2, none⟩) q1).trans v2
  have v3' := (hW2.cell (p := ⟨w1.heap.size, 3, none⟩) q1).trans v3
  have v4' := (hW2.cell (p := ⟨w1.heap.size, 4, none⟩) q1).trans v4
  have a0' := (hW2.cell (p := ⟨w2.heap.size, 0, none⟩) q2).trans a0
  have a1' := (hW2.cell (p := ⟨w2.heap.size, 1, none⟩) q2).trans a1
  have a2' := (hW2.cell (p := ⟨w2.heap.size, 2, none⟩) q2).trans a2
  have a3' := (hW2.cell (p := ⟨w2.heap.size, 3, none⟩) q2).trans a3
  have a4' := (hW2.cell (p := ⟨w2.heap.size, 4, none⟩) q2).trans a4
  have a5' := (hW2.cell (p := ⟨w2.heap.size, 5, none⟩) q2).trans a5
  clear v0 v1 v2 v3 v4 a0 a1 a2 a3 a4 a5 z0 z1 z2 z3 z4 z5 hW2 BW q1 q2 hzW
  go_wp2_with fail
  by_cases hc0 : c = 0
  · subst hc0
    have HA := hide (keyV_again kind num flt s ref (unhide HK'))
    refine wp_region_quiet (C := fun w' => Below W2.heap.size W2 w') (by kernel_rfl) (by kernel_rfl) ((Below.refl _ _).drew) ?_
    show wpQuiet _ _ _ _ [_, _, _, _, _, _, _, _, _, _, _, _, _, _, _, _, _, _, _, _, _] _
    refine wpQuiet_step (fun K hK => ?_)
    go_simp
    refine ⟨_, fun w' hw' => rfl, hK _ ?_⟩
    clear hK K
    refine wpQuiet_step (fun K hK => ?_)
    go_simp
    apply Exists.intro
    refine And.intro (fun w' hw' => ?_) (hK _ ?_)
    · obtain ⟨hc', hf'⟩ := bcell hw'
      go_simp
      first | rfl | exact ⟨rfl, rfl⟩ | exact ⟨rfl⟩
    clear hK K
    refine wpQuiet_step (fun K hK => ?_)
    go_simp
    refine ⟨_, fun w' hw' => rfl, hK _ ?_⟩
    clear hK K
    refine wpQuiet_step (fun K hK => ?_)
    go_simp
    refine ⟨_, fun w' hw' => rfl, hK _ ?_⟩
    clear hK K
    refine wpQuiet_step (fun K hK => ?_)
    go_simp
    refine ⟨_, fun w' hw' => rfl, hK _ ?_⟩
    clear hK K
    refine wpQuiet_step (fun K hK => ?_)
    go_simp
    apply Exists.intro
    refine And.intro (fun w' hw' => ?_) (hK _ ?_)
    · obtain ⟨hc', hf'⟩ := bcell hw'
      go_simp
      first | rfl | exact ⟨rfl, rfl⟩ | exact ⟨rfl⟩
    clear hK K
    refine wpQuiet_step (fun K hK => ?_)
    go_simp
    apply Exists.intro
    refine And.intro (fun w' hw' => ?_) (hK _ ?_)
    · refine (ihash_is k n f t r (unhide HA) (unhide HH) _ ((unhide HT).below ((unhide BW2).trans (hw'.mono (unhide BW2).size)) (unhide HT).sz)).mono ?_
      rintro e w'' ⟨rfl, hb⟩
      exact ⟨rfl, hw'.trans (hb.mono hw'.size)⟩
    clear hK K
    refine wpQuiet_step (fun K hK => ?_)
    go_simp
    apply Exists.intro
    refine And.intro (fun w' hw' => ?_) (hK _ ?_)
    · obtain ⟨hc', hf'⟩ := bcell hw'
      go_simp
      first | rfl | exact ⟨rfl, rfl⟩ | exact ⟨rfl⟩
    clear hK K
    refine wpQuiet_step (fun K hK => ?_)
    go_simp
    apply Exists.intro
    refine And.intro (fun w' hw' => ?_) (hK _ ?_)
    · refine (ihash_is kind num flt s ref (unhide HK') (unhide HH) _ ((unhide HT).below ((unhide BW2).trans (hw'.mono (unhide BW2).size)) (unhide HT).sz)).mono ?_
      rintro e w'' ⟨rfl, hb⟩
      exact ⟨rfl, hw'.trans (hb.mono hw'.size)⟩
    clear hK K
    refine wpQuiet_step (fun K hK => ?_)
    go_simp
    refine ⟨_, fun w' hw' => rfl, hK _ ?_⟩
    clear hK K
    refine wpQuiet_step (fun K hK => ?_)
    go_simp
    refine ⟨_, fun w' hw' => rfl, hK _ ?_⟩
    clear hK K
    refine wpQuiet_step (fun K hK => ?_)
    go_simp
    refine ⟨_, fun w' hw' => rfl, hK _ ?_⟩
    clear hK K
    refine wpQuiet_step (fun K hK => ?_)
    go_simp
    apply Exists.intro
    refine And.intro (fun w' hw' => ?_) (hK _ ?_)
    · obtain ⟨hc', hf'⟩ := bcell hw'
      go_simp
      first | rfl | exact ⟨rfl, rfl⟩ | exact ⟨rfl⟩
    clear hK K
    refine wpQuiet_step (fun K hK => ?_)
    go_simp
    apply Exists.intro
    refine And.intro (fun w' hw' => ?_) (hK _ ?_)
    · refine (ikey_any k n f t r _).mono ?_
      rintro e w'' ⟨rfl, hb⟩
      rw [unhide HA]
      exact ⟨rfl, hw'.trans (hb.mono hw'.size)⟩
    clear hK K
    refine wpQuiet_step (fun K hK => ?_)
    go_simp
    apply Exists.intro
    refine And.intro (fun w' hw' => ?_) (hK _ ?_)
    · have hfl := field_is k n f t r w'
      go_simp
      first | rfl | exact ⟨rfl, rfl⟩ | exact ⟨rfl⟩
    clear hK K
    refine wpQuiet_step (fun K hK => ?_)
    go_simp
    refine ⟨_, fun w' hw' => rfl, hK _ ?_⟩
    clear hK K
    refine wpQuiet_step (fun K hK => ?_)
    go_simp
    apply Exists.intro
    refine And.intro (fun w' hw' => ?_) (hK _ ?_)
    · obtain ⟨hc', hf'⟩ := bcell hw'
      go_simp
      first | rfl | exact ⟨rfl, rfl⟩ | exact ⟨rfl⟩
    clear hK K
    refine wpQuiet_step (fun K hK => ?_)
    go_simp
    apply Exists.intro
    refine And.intro (fun w' hw' => ?_) (hK _ ?_)
    · refine (wVal_self k n f t r _).mono ?_
      rintro e w'' ⟨rfl, hb⟩
      exact ⟨rfl, hw'.trans (hb.mono hw'.size)⟩
    clear hK K
    refine wpQuiet_step (fun K hK => ?_)
    go_simp
    refine ⟨_, fun w' hw' => rfl, hK _ ?_⟩
    clear hK K
    refine wpQuiet_step (fun K hK => ?_)
    go_simp
    refine ⟨_, fun w' hw' => rfl, hK _ ?_⟩
    clear hK K
    refine wpQuiet_step (fun K hK => ?_)
    go_simp
    refine ⟨_, fun w' hw' => rfl, hK _ ?_⟩
    clear hK K
    refine wpQuiet_nil ?_
    intro W3 hW3
    have BW3 := hide ((unhide BW2).trans (hW3.mono (unhide BW2).size))
    clear hW3
    go_wp2_with fail
    refine (wByte_zero a len cap _ ((unhide HCode).of_eq fun k hk => (unhide BW3).block k hk) hle).mono ?_
    rintro e W4 ⟨⟨z, rfl, hz0, hz1⟩, hW4⟩
    have B4 := hide (show Below w.heap.size w W4 from by rw [hW4]; exact unhide BW3)
    clear hW4
    go_wp2_with fail
    refine (ihash_is 3 0 (floatOfInt .f64 (z - 100)) ⟨#[]⟩ 0 (keyV_float (z - 100) (by omega) (by omega)).1 (fun _ => hk_int) _ ((unhide HT).below (unhide B4) (unhide HT).sz)).mono ?_
    rintro e W5 ⟨rfl, hb5⟩
    have B5 := hide ((unhide B4).trans (hb5.mono (unhide B4).size))
    clear hb5
    go_wp2_with fail
    refine (ihash_is 2 (z - 100) 0 ⟨#[]⟩ 0 (keyV_float (z - 100) (by omega) (by omega)).2 (fun _ => hk_int) _ ((unhide HT).below (unhide B5) (unhide HT).sz)).mono ?_
    rintro e W6 ⟨rfl, hb6⟩
    have B6 := hide ((unhide B5).trans (hb6.mono (unhide B5).size))
    clear hb6
    go_wp2_with fail
    go_ret
    exact ⟨by simp, unhide B6⟩
  · have hcf : (c == 0) = false := by simp [hc0]
    refine wp_region_quiet (C := fun w' => Below W2.heap.size W2 w') (by kernel_rfl) (by kernel_rfl) ((Below.refl _ _).drew) ?_
    show wpQuiet _ _ _ _ [_, _, _, _, _, _, _, _, _, _, _, _, _, _, _, _, _, _, _, _, _] _
    refine wpQuiet_step (fun K hK => ?_)
    go_simp
    refine ⟨_, fun w' hw' => rfl, hK _ ?_⟩
    clear hK K
    refine wpQuiet_step (fun K hK => ?_)
    go_simp
    apply Exists.intro
    refine And.intro (fun w' hw' => ?_) (hK _ ?_)
    · obtain ⟨hc', hf'⟩ := bcell hw'
      go_simp
      first | rfl | exact ⟨rfl, rfl⟩ | exact ⟨rfl⟩
    clear hK K
    refine wpQuiet_step (fun K hK => ?_)
    go_simp
    refine ⟨_, fun w' hw' => rfl, hK _ ?_⟩
    clear hK K
    refine wpQuiet_step (fun K hK => ?_)
    go_simp
    refine ⟨_, fun w' hw' => rfl, hK _ ?_⟩
    clear hK K
    iterate 16 (go_big_quiet_step (fail))
    go_big_quiet_step ((intro _; rfl))
    refine wpQuiet_nil ?_
    intro W3 hW3
    have BW3 := hide ((unhide BW2).trans (hW3.mono (unhide BW2).size))
    clear hW3
    go_wp2_with fail
    refine (wByte_zero a len cap _ ((unhide HCode).of_eq fun k hk => (unhide BW3).block k hk) hle).mono ?_
    rintro e W4 ⟨⟨z, rfl, hz0, hz1⟩, hW4⟩
    have B4 := hide (show Below w.heap.size w W4 from by rw [hW4]; exact unhide BW3)
    clear hW4
    go_wp2_with fail
    refine (ihash_is 3 0 (floatOfInt .f64 (z - 100)) ⟨#[]⟩ 0 (keyV_float (z - 100) (by omega) (by omega)).1 (fun _ => hk_int) _ ((unhide HT).below (unhide B4) (unhide HT).sz)).mono ?_
    rintro e W5 ⟨rfl, hb5⟩
    have B5 := hide ((unhide B4).trans (hb5.mono (unhide B4).size))
    clear hb5
    go_wp2_with fail
    refine (ihash_is 2 (z - 100) 0 ⟨#[]⟩ 0 (keyV_float (z - 100) (by omega) (by omega)).2 (fun _ => hk_int) _ ((unhide HT).below (unhide B5) (unhide HT).sz)).mono ?_
    rintro e W6 ⟨rfl, hb6⟩
    have B6 := hide ((unhide B5).trans (hb6.mono (unhide B5).size))
    clear hb6
    go_wp2_with fail
    go_ret
    exact ⟨by simp, unhide B6⟩

set_option maxHeartbeats 400000 in
theorem law_keys_great (a : Option Addr) (len cap : Nat) (w : World) (h : (1048576 : Int) < len) :
    Calls Tryd.prog 5 #[.slice a len cap] w fun e w' => e = .returned (.bool true) ∧ Below w.heap.size w w' := by
  go_enter Tryd.func5, Tryd.ntmps5
  go_wp2_with fail
  go_ret
  exact ⟨rfl, Below.refl _ _⟩

theorem law_keys_all (a : Option Addr) (len cap : Nat) (w : World) (hcode : len ≤ 1048576 → CodeAt w w.heap.size a len) (hT : Tabs w) :
    Calls Tryd.prog 5 #[.slice a len cap] w fun e w' => e = .returned (.bool true) ∧ Below w.heap.size w w' := by
  by_cases h : len ≤ 1048576
  · exact law_keys a len cap w (hcode h) (by omega) hT
  · exact law_keys_great a len cap w (by omega)
end Go.Proofs.YtgiegkigfokdmaaDoor
