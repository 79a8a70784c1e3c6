/- Same: two lists of registers that are the same. -/
import Derived.Test.YtkghiendflheiaaRS16
import Derived.Deep.QuietTactic
import Derived.BigQuiet
import Derived.LoopTactic
set_option linter.unusedVariables false
namespace Go.Proofs.Ytkghiendflheiaa
open Go.RowKit Go.Shelf
set_option maxRecDepth 100000 in
set_option maxHeartbeats 1000000 in
theorem same_cells (b1 o1 c1 b2 o2 c2 n : Nat) (ls : List Int) (hl : ls.length = n) (hn : n ≤ 1000000) (w : World) (h1 : ∀ j, j < n → w.cell? ⟨b1, o1 + j, none⟩ = some (.int .u16 (ls.getD j 0))) (h2 : ∀ j, j < n → w.cell? ⟨b2, o2 + j, none⟩ = some (.int .u16 (ls.getD j 0))) :
    Calls Try.prog 10 #[.slice (some ⟨b1, o1, none⟩) n c1, .slice (some ⟨b2, o2, none⟩) n c2] w fun e w' => e = .returned (.bool true) ∧ ∃ q, w' = w.drewN q := by
  have H1 := Lib.hid h1
  have H2 := Lib.hid h2
  have HL := Lib.hid hl
  clear h1 h2 hl
  go_enter Try.func10, Try.ntmps10
  go_wp2
  go_loopw [5] (fun i wr => ∃ k : Nat, k ≤ n ∧ i = .int .i64 k ∧ ∃ q, wr = w.drewN q) (fun i _ => n - (intOf i).toNat)
  case atStart => exact ⟨0, Nat.zero_le _, rfl, 0, rfl⟩
  case round =>
    obtain ⟨k, hk, rfl, q, hwr⟩ := hrel
    by_cases hlt : k < n
    · have ca : wr.cell? ⟨b1, o1 + k, none⟩ = some (.int .u16 (ls.getD k 0)) := by rw [hwr]; exact H1.out k hlt
      have cb : wr.cell? ⟨b2, o2 + k, none⟩ = some (.int .u16 (ls.getD k 0)) := by rw [hwr]; exact H2.out k hlt
      generalize ls.getD k 0 = x at ca cb
      have HW := Lib.hid hwr
      clear hwr
      go_wp2_with fail
      go_quiet (fail)
      go_wp2
      go_roundw
      case rel => exact ⟨k + 1, by omega, by simp, q + nq, by rw [HW.out]; simp [World.drewN, Nat.add_assoc]⟩
      case measure => simp [intOf]; omega
    · obtain rfl : k = n := by omega
      have HW := Lib.hid hwr
      clear hwr
      go_wp2
      go_ret
      exact ⟨rfl, q, HW.out⟩
set_option maxHeartbeats 1000000 in
theorem same_none (a : Option Addr) (c : Nat) (b : Option Addr) (d : Nat) (w : World) :
    Calls Try.prog 10 #[.slice a 0 c, .slice b 0 d] w fun e w' => e = .returned (.bool true) ∧ ∃ q, w' = w.drewN q := by
  go_enter Try.func10, Try.ntmps10
  go_wp2
  go_loopw [5] (fun i wr => i = .int .i64 0 ∧ wr = w) (fun i _ => 0)
  case atStart => exact ⟨rfl, rfl⟩
  case round =>
    obtain ⟨rfl, rfl⟩ := hrel
    go_wp2
    go_ret
    exact ⟨rfl, 0, rfl⟩
theorem same_yes {B C : Nat} (a : Option Addr) (n c : Nat) (b : Option Addr) (m d : Nat) (ls : List Int) (hn : ls.length ≤ 1000000) (w : World) (hI : Bys16 B w (.slice a n c) ls) (hJ : Bys16 C w (.slice b m d) ls) :
    Calls Try.prog 10 #[.slice a n c, .slice b m d] w fun e w' => e = .returned (.bool true) ∧ Below w.heap.size w w' := by
  have key : Calls Try.prog 10 #[.slice a n c, .slice b m d] w fun e w' => e = .returned (.bool true) ∧ ∃ q, w' = w.drewN q := by
    obtain ⟨_, ⟨rfl, a1, c1, e⟩ | ⟨b1, o1, c1, e, _, h1⟩⟩ := hI
    · cases e
      obtain ⟨b1, d1, e⟩ := hJ.is
      cases e
      exact same_none _ _ _ _ w
    · cases e
      obtain ⟨_, ⟨rfl, a2, c2, e⟩ | ⟨b2, o2, c2, e, _, h2⟩⟩ := hJ
      · cases e
        exact same_none _ _ _ _ w
      · cases e
        exact same_cells b1 o1 _ b2 o2 _ _ ls rfl hn w h1 h2
  refine key.mono ?_
  rintro e w' ⟨rfl, q, rfl⟩
  exact ⟨rfl, ⟨rfl, rfl, rfl, Nat.le_refl _, fun _ _ => rfl⟩⟩
end Go.Proofs.Ytkghiendflheiaa
