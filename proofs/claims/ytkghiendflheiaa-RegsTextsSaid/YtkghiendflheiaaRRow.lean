/- Bytes in place: slices.Reverse at []byte, turn, arrange, over a slice whose cells hold an array of numbers. -/
import Derived.Test.YtkghiendflheiaaRLeaf
import Derived.Deep.LoopGhost
import Derived.Lib.Walk
import Derived.Sort.WalkB12
import Derived.Lib.SlicesMore
import Derived.RegionTactic
import Derived.BigRegion
import Derived.Deep.Draws
set_option linter.unusedVariables false
namespace Go.Proofs.Ytkghiendflheiaa
open Go.RowKit Go.Lib Go.Sort
abbrev encB : Int → Value := Value.int .u8
set_option maxHeartbeats 1600000 in
set_option maxRecDepth 1000000 in
theorem reverse_any (blk off cap : Nat) (d : Array Int) (w : World) (hH : Holds encB w blk off d) (hsz : d.size ≤ 1000) :
    Calls Try.prog 32 #[.slice (some ⟨blk, off, none⟩) d.size cap] w fun e w' => e = .returned (.tuple #[]) ∧ ∃ n, w' = putRow encB (Sort.ahead w n) blk off d.reverse := by
  go_enter Try.func32, Try.ntmps32
  go_wp2
  go_loopg [2, 3] d.size (fun k s2 s3 wr => ∃ (i jn : Nat) (jz : Int) (dk : Array Int) (n : Nat), s2 = .int .i64 i ∧ s3 = .int .i64 jz ∧ ((i : Int) < jz → jz = jn ∧ jn < d.size) ∧ (¬ (i : Int) < jz → ¬ i < jn) ∧ jn - i ≤ k ∧
    dk.size = d.size ∧ wr = putRow encB (Sort.ahead w n) blk off dk ∧ reverseLoop i jn dk = reverseLoop 0 (d.size - 1) d)
  case atStart => exact ⟨0, d.size - 1, (d.size : Int) - 1, d, 0, rfl, rfl, fun h => ⟨by omega, by omega⟩, fun h => by omega, by omega, rfl, (putRow_self encB w blk off d hH).symm, rfl⟩
  case round =>
    obtain ⟨i, jn, jz, dk, n, rfl, rfl, h1, h2, hk, hds, hwr, heq⟩ := hrel
    by_cases hlt : (i : Int) < jz
    · obtain ⟨rfl, hjn⟩ := h1 hlt
      have hij : i < jn := by omega
      have hHk : Holds encB wr blk off dk := by rw [hwr]; exact holds_putRow encB _ blk off d dk (holds_ahead encB w n blk off d hH) hds
      obtain ⟨ci, fi⟩ := hHk i (by omega)
      obtain ⟨cj, fj⟩ := hHk jn (by omega)
      have A := Lib.hid hwr
      have HEQ := Lib.hid heq
      have HDS := Lib.hid hds
      clear hwr hHk hH h1 h2 heq hds
      go_wp2_with fail
      go_region
      go_wp2
      go_roundg (jn - 1 - (i + 1))
      case measure => omega
      case rel =>
        have heq := HEQ.out
        have hds := HDS.out
        rw [reverseLoop, if_pos hij] at heq
        exact ⟨i + 1, jn - 1, (jn : Int) - 1, swp dk i jn, n + 1, by simp, rfl, fun h => ⟨by omega, by omega⟩, fun h => by omega, Nat.le_refl _, by rw [size_swp]; exact hds,
          swap_world encB (by omega) (by omega) A.out (by first | rfl | simp [getElem!_pos, show jn < dk.size by omega]) (by first | rfl | simp [getElem!_pos, show i < dk.size by omega]), heq⟩
    · have hnot := h2 hlt
      go_wp2
      go_end0
      refine ⟨rfl, n, ?_⟩
      rw [reverseLoop, if_neg hnot] at heq
      rw [← Lib.reverseLoop_reverse, ← heq]
/-- Neighbours exchanged, two by two. -/
def turnL : Nat → Nat → Array Int → Array Int
  | 0, _, d => d
  | k + 1, i, d => if i + 1 < d.size then turnL k (i + 2) (swp d i (i + 1)) else d
def turnA (d : Array Int) : Array Int := turnL d.size 0 d
theorem size_turnL (k i : Nat) (d : Array Int) : (turnL k i d).size = d.size := by
  induction k generalizing i d with
  | zero => rfl
  | succ k ih => rw [turnL]; split
                 · rw [ih, size_swp]
                 · rfl
theorem turnL_end (k i : Nat) (d : Array Int) (h : ¬ i + 1 < d.size) : turnL k i d = d := by
  cases k with
  | zero => rfl
  | succ k => rw [turnL, if_neg h]
theorem size_turnA (d : Array Int) : (turnA d).size = d.size := size_turnL _ _ _
set_option maxHeartbeats 1600000 in
set_option maxRecDepth 1000000 in
theorem turn_any (blk off cap : Nat) (d : Array Int) (w : World) (hH : Holds encB w blk off d) (hsz : d.size ≤ 1000) :
    Calls Try.prog 33 #[.slice (some ⟨blk, off, none⟩) d.size cap] w fun e w' => e = .returned (.tuple #[]) ∧ ∃ n, w' = putRow encB (Sort.ahead w n) blk off (turnA d) := by
  go_enter Try.func33, Try.ntmps33
  go_wp2
  go_loopg [2] d.size (fun k s2 wr => ∃ (i : Nat) (dk : Array Int) (n : Nat), s2 = .int .i64 i ∧ i ≤ d.size + 1 ∧ d.size ≤ i + k ∧
    dk.size = d.size ∧ wr = putRow encB (Sort.ahead w n) blk off dk ∧ turnL k i dk = turnA d)
  case atStart => exact ⟨0, d, 0, rfl, by omega, by omega, rfl, (putRow_self encB w blk off d hH).symm, rfl⟩
  case round =>
    obtain ⟨i, dk, n, rfl, hi, hk, hds, hwr, heq⟩ := hrel
    by_cases hlt : i + 1 < d.size
    · have hHk : Holds encB wr blk off dk := by rw [hwr]; exact holds_putRow encB _ blk off d dk (holds_ahead encB w n blk off d hH) hds
      obtain ⟨ci, fi⟩ := hHk i (by omega)
      obtain ⟨cj, fj⟩ := hHk (i + 1) (by omega)
      obtain ⟨k', hk'⟩ : ∃ k', gk = k' + 1 := ⟨gk - 1, by omega⟩
      rw [hk'] at heq
      have HK := Lib.hid hk'
      clear hk'
      have A := Lib.hid hwr
      have HEQ := Lib.hid heq
      have HDS := Lib.hid hds
      clear hwr hHk hH heq hds
      go_wp2_with fail
      go_region
      go_wp2
      go_roundg k'
      case measure => have := HK.out; omega
      case rel =>
        have heq := HEQ.out
        have hds := HDS.out
        have hk' := HK.out
        rw [turnL, if_pos (by omega)] at heq
        exact ⟨i + 2, swp dk i (i + 1), n + 1, by go_num, by omega, by omega, by rw [size_swp]; exact hds,
          swap_world encB (by omega) (by omega) A.out (by first | rfl | simp [getElem!_pos, show i + 1 < dk.size by omega]) (by first | rfl | simp [getElem!_pos, show i < dk.size by omega]), heq⟩
    · have e : turnL gk i dk = dk := turnL_end gk i dk (by omega)
      have HE := Lib.hid (heq.symm.trans e)
      have A := Lib.hid hwr
      clear heq e hwr hH
      have hlt' : ¬ ((i : Int) + 1 < (d.size : Int)) := by omega
      go_wp2
      go_end0
      exact ⟨rfl, n, by rw [HE.out]; exact A.out⟩
/-- What arrange makes of bytes, by the order. -/
def arr (o : Int) (d : Array Int) : Array Int := if o = 4 then d.reverse else if o = 2 then turnA d.reverse else if o = 3 then turnA d else d
set_option maxHeartbeats 800000 in
theorem arrange_any (o : Int) (ho : o = 1 ∨ o = 2 ∨ o = 3 ∨ o = 4) (blk off cap : Nat) (d : Array Int) (w : World) (hH : Holds encB w blk off d) (hsz : d.size ≤ 1000) :
    Calls Try.prog 25 #[.slice (some ⟨blk, off, none⟩) d.size cap, .int .i64 o] w fun e w' => e = .returned (.tuple #[]) ∧ ∃ n, w' = putRow encB (Sort.ahead w n) blk off (arr o d) := by
  have HH := Lib.hid hH
  clear hH
  rcases ho with rfl | rfl | rfl | rfl
  · go_enter Try.func25, Try.ntmps25
    go_wp2
    go_end0
    exact ⟨rfl, 0, (putRow_self encB w blk off d HH.out).symm⟩
  · go_enter Try.func25, Try.ntmps25
    go_wp2_with fail
    refine (reverse_any blk off cap d w HH.out hsz).mono ?_
    rintro e w1 ⟨rfl, n, hw1⟩
    have HW := Lib.hid hw1
    have H1 : Holds encB w1 blk off d.reverse := by rw [hw1]; exact holds_putRow encB _ blk off d d.reverse (holds_ahead encB w n blk off d HH.out) (by simp)
    have HH1 := Lib.hid H1
    clear hw1 H1
    go_wp2_with fail
    have hk := turn_any blk off cap d.reverse w1 HH1.out (by simpa using hsz)
    rw [Array.size_reverse] at hk
    refine hk.mono ?_
    rintro e w2 ⟨rfl, m, hw2⟩
    have HW2 := Lib.hid hw2
    clear hw2 hk
    go_wp2
    go_end0
    refine ⟨rfl, n + m, ?_⟩
    rw [HW2.out, HW.out]
    exact putRow_ahead_putRow encB w n m blk off d.reverse (turnA d.reverse) (size_turnA _)
  · go_enter Try.func25, Try.ntmps25
    go_wp2_with fail
    refine (turn_any blk off cap d w HH.out hsz).mono ?_
    rintro e w1 ⟨rfl, n, hw1⟩
    have HW := Lib.hid hw1
    clear hw1
    go_wp2
    go_end0
    exact ⟨rfl, n, HW.out⟩
  · go_enter Try.func25, Try.ntmps25
    go_wp2_with fail
    refine (reverse_any blk off cap d w HH.out hsz).mono ?_
    rintro e w1 ⟨rfl, n, hw1⟩
    have HW := Lib.hid hw1
    clear hw1
    go_wp2
    go_end0
    exact ⟨rfl, n, HW.out⟩
theorem size_arr (o : Int) (d : Array Int) : (arr o d).size = d.size := by
  unfold arr; split
  · simp
  · split
    · rw [size_turnA]; simp
    · split
      · rw [size_turnA]
      · rfl
end Go.Proofs.Ytkghiendflheiaa
