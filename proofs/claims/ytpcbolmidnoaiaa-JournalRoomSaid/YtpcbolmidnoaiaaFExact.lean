/- Exact. -/
import Derived.Test.YtpcbolmidnoaiaaFScan
set_option linter.unusedVariables false
set_option linter.unusedSimpArgs false
namespace Go.Proofs.Ytpcbolmidnoaiaa
open Go.RowKit Go.Shelf
theorem scans_len {xs : List Int} {ls : List (List Int)} {rest : List Int} (h : Scans xs ls rest) : xs.length = sizeN ls + rest.length := by
  have := congrArg List.length h.eq
  rw [List.length_append] at this
  exact this
def ExactE (ls : List (List Int)) (rest : List Int) (w : World) (e : Ending) (w' : World) : Prop :=
  (rest = [] ∧ ∃ a c, e = .returned (.tuple #[.slice a ls.length c, .int .i64 0]) ∧ ls.length ≤ c ∧ OwnS w w' (.slice a ls.length c) ls ∧ Below w.heap.size w w') ∨
  (rest ≠ [] ∧ e = .returned (.tuple #[.slice none 0 0, .int .i64 130]) ∧ Below w.heap.size w w')
set_option maxRecDepth 100000 in
set_option maxHeartbeats 1000000 in
theorem exact_any (a : Option Addr) (n c : Nat) (xs : List Int) (ls : List (List Int)) (rest : List Int) (w : World) (h : Bys8 w.heap.size w (.slice a n c) xs) (hc : n ≤ c) (hs : Scans xs ls rest) (hl : xs.length ≤ 1000000) :
    Calls Try.prog 29 #[.slice a n c] w (ExactE ls rest w) := by
  have hsc := scan_any a n c xs ls rest w h hc hs hl
  have hln := scans_len hs
  obtain ⟨a1, c1, e1⟩ := h.is
  cases e1
  unfold ScanE at hsc
  unfold ExactE
  obtain ⟨n0, hn0⟩ : ∃ n0, xs.length = n0 := ⟨_, rfl⟩
  obtain ⟨ll, hll⟩ : ∃ ll, ls.length = ll := ⟨_, rfl⟩
  obtain ⟨N, hN⟩ : ∃ N, sizeN ls = N := ⟨_, rfl⟩
  rw [hll, hN] at hsc
  rw [hn0, hN] at hln
  rw [hn0, hll]
  rw [hn0] at hsc
  have HSC := Lib.hid hsc
  by_cases hr : rest = []
  · have e0 : N = n0 := by rw [hr] at hln; simp at hln; omega
    subst e0
    have HR := Lib.hid hr
    clear h hc hs hl hsc hln hr hn0 hll hN
    go_enter Try.func29, Try.ntmps29
    go_wp2_with (first | (go_at_call 48; refine HSC.out.mono ?_; rintro e w1 ⟨a2, c2, rfl, hc2, hb2, hB2⟩; have HB := Lib.hid (And.intro hc2 (And.intro hb2 hB2)); clear hc2 hb2 hB2) | fail)
    go_ret2
    exact .inl ⟨HR.out, a2, c2, rfl, HB.out⟩
  · have hpos : 0 < rest.length := List.length_pos_iff.2 hr
    have i1 : ((N : Int) != (n0 : Int)) = true := by simp; omega
    have HR := Lib.hid hr
    clear h hc hs hl hsc hln hr hn0 hll hN hpos
    go_enter Try.func29, Try.ntmps29
    go_wp2_with (first | (go_at_call 48; refine HSC.out.mono ?_; rintro e w1 ⟨a2, c2, rfl, hc2, hb2, hB2⟩; have HB := Lib.hid (And.intro hc2 (And.intro hb2 hB2)); clear hc2 hb2 hB2) | fail)
    go_ret2
    exact .inr ⟨HR.out, rfl, HB.out.2.2⟩
end Go.Proofs.Ytpcbolmidnoaiaa
