/- Fields: what may be, the numbers of an entry. -/
import Derived.Test.YtmeamdfmcpkofaaDoorEVal
import Derived.IntWalk
set_option linter.unusedVariables false
set_option linter.unusedSimpArgs false
namespace Go.Proofs.YtmeamdfmcpkofaaDoor
open Go.RowKit Go.Shelf
/-- The field f of kind k. -/
def fdV (k f : Nat) : Array Value := #[.int .i64 (f : Int), .int .i64 (sizeN f : Int), .int .u64 (mostN f), .bool (signB k f)]
theorem wrap_s64 {n : Int} (h : 0 ≤ n ∧ n < 18446744073709551616) : IntKind.i64.wrap n = s64 n := by
  simp [IntKind.wrap, IntKind.bits, IntKind.signed]; unfold s64; split <;> omega
theorem wrap64_s64 {n : Int} (h : 0 ≤ n ∧ n < 18446744073709551616) : wrap64 n = s64 n := by
  unfold wrap64 s64; split <;> omega
theorem sign_is {k f : Nat} (h : signB k f = true) : k = 4 ∧ (f = 2 ∨ f = 5) := by
  simp [signB] at h; exact h
set_option maxHeartbeats 1000000 in
theorem holds_any (k f : Nat) (n : Int) (h : 0 ≤ n ∧ n < 18446744073709551616) (w : World) : Calls Tryd.prog 32 #[.agg (fdV k f), .int .u64 n] w fun e w' => e = .returned (.bool (holdsB k f n)) ∧ Below w.heap.size w w' := by
  by_cases hs : signB k f = true
  · have hm : mostN f = 4611686018427387904 := by obtain ⟨_, rfl | rfl⟩ := sign_is hs <;> rfl
    have e : holdsB k f n = (decide (-4611686018427387904 ≤ s64 n) && decide (s64 n ≤ 4611686018427387904)) := by unfold holdsB; rw [if_pos hs, hm]
    have ew := wrap64_s64 h
    have hr := s64_r h
    unfold R64 at hr
    obtain ⟨hr0, hr1⟩ := hr
    generalize s64 n = m at *
    unfold fdV
    rw [hs, hm, e]
    clear e hs hm
    obtain ⟨h0, h1⟩ := h
    by_cases q1 : -4611686018427387904 ≤ m
    · have hd : decide (-4611686018427387904 ≤ m) = true := by simpa using q1
      rw [hd]
      go_enter Tryd.func32, Tryd.ntmps32
      go_wp2
      go_ret
      exact ⟨by simp, (Below.refl _ _).alloc (Nat.le_refl _) _⟩
    · have hd : decide (-4611686018427387904 ≤ m) = false := by simpa using q1
      rw [hd]
      go_enter Tryd.func32, Tryd.ntmps32
      go_wp2
      go_ret
      exact ⟨by simp, (Below.refl _ _).alloc (Nat.le_refl _) _⟩
  · have hs' : signB k f = false := by simpa using hs
    have e : holdsB k f n = decide (n ≤ mostN f) := by unfold holdsB; rw [if_neg hs]
    unfold fdV
    rw [hs', e]
    generalize mostN f = m
    clear e hs hs'
    obtain ⟨h0, h1⟩ := h
    go_enter Tryd.func32, Tryd.ntmps32
    go_wp2
    go_ret
    exact ⟨rfl, (Below.refl _ _).alloc (Nat.le_refl _) _⟩
set_option maxHeartbeats 2000000 in
set_option maxRecDepth 10000 in
theorem numbersOf_any (x : En) (hx : x.ok) (w : World) : Calls Tryd.prog 31 #[.agg (enV x)] w fun e w' => e = .returned (.agg (nums .u64 9 (num x))) ∧ Below w.heap.size w w' := by
  obtain ⟨g0, g1, g2, g3, g4, g5, g6, g7, g8, g9⟩ := enV_get x
  have hc := hx.count
  have hq := hx.seq
  obtain ⟨hc0, hc1⟩ := hc
  obtain ⟨hq0, hq1⟩ := hq
  have hn := Lib.hid (numsA x)
  clear hx
  go_enter Tryd.func31, Tryd.ntmps31
  go_wp2
  simp only [wrap_u64]
  rw [← hn.out]
  exact bodyPost_ret (v := .agg (nums .u64 9 (num x))) (results_cell_row rfl _ _ (w.heap.size + 1) _ _ _ _ rfl (at_second w _ _) Tryd.underlying61 rfl (size_nums _)) rfl ⟨rfl, ((Below.refl _ _).alloc (Nat.le_refl _) _).alloc (by simp) _⟩
set_option maxHeartbeats 2000000 in
set_option maxRecDepth 10000 in
theorem entry_any (k : Nat) (hk : k ≤ 255) (g : Nat → Int) (hg : ∀ f, 0 ≤ g f ∧ g f < 18446744073709551616) (L : List Int) (hL : Oct L ∧ L.length = 32) (w : World) :
    Calls Tryd.prog 29 #[.agg (nums .u64 9 g), .int .i64 (k : Int), .agg (nums .u8 32 (bf L))] w fun e w' => e = .returned (.agg (enV (enOf k g L))) ∧ Below w.heap.size w w' := by
  have e0 := wrap64_s64 (hg 0)
  have e1 := wrap64_s64 (hg 1)
  have e2 := wrap64_s64 (hg 2)
  have e3 := wrap64_s64 (hg 3)
  have e4 := wrap64_s64 (hg 4)
  have e5 := wrap64_s64 (hg 5)
  have e6 := wrap64_s64 (hg 6)
  have n0 := nums_get .u64 9 g 0 (by omega)
  have n1 := nums_get .u64 9 g 1 (by omega)
  have n2 := nums_get .u64 9 g 2 (by omega)
  have n3 := nums_get .u64 9 g 3 (by omega)
  have n4 := nums_get .u64 9 g 4 (by omega)
  have n5 := nums_get .u64 9 g 5 (by omega)
  have n6 := nums_get .u64 9 g 6 (by omega)
  have n7 := nums_get .u64 9 g 7 (by omega)
  have n8 := nums_get .u64 9 g 8 (by omega)
  have hz := (zero_of_info zero_en).1
  clear hg
  go_enter Tryd.func29, Tryd.ntmps29
  go_wp2_with (first | (refine load_hash (g := w.heap.size + 1) (f := bf L) ((at_second w _ _).alloc _) rfl rfl rfl ?_) | (refine build_en (X := enOf k g L) rfl rfl (by simp only [e0, e1, e2, e3, e4, e5, e6]; kernel_rfl) ?_) | (refine store_en (X := enOf k g L) (at_third w _ _ _) rfl rfl rfl rfl rfl ?_))
  exact bodyPost_ret (v := .agg (enV (enOf k g L))) (results_en rfl _ _ (w.heap.size + 1 + 1) rfl (At.row (at_third w _ _ _))) rfl ⟨rfl, below_row ((((Below.refl _ _).alloc (Nat.le_refl _) _).alloc (by simp) _).alloc (by simp; omega) _) (by omega) _⟩
end Go.Proofs.YtmeamdfmcpkofaaDoor
