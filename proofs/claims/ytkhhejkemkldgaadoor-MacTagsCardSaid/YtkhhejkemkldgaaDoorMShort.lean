/- The contract of Short. -/
import Derived.Test.YtkhhejkemkldgaaDoorMSum
set_option linter.unusedVariables false
set_option linter.unusedSimpArgs false
namespace Go.Proofs.YtkhhejkemkldgaaDoor
open Go.RowKit Go.Shelf
set_option maxHeartbeats 1000000 in
theorem clone_any (A : Option Addr) (xs : List Int) (c : Nat) (hx : xs.length ≤ 1000000) (g : Addr) (hA : A = some g) (w : World) (hb : Bys8 w.heap.size w (.slice A xs.length c) xs) :
    Calls Tryd.prog 41 #[.slice A xs.length c] w fun e w' => ∃ a d, e = .returned (.slice a xs.length d) ∧ Own8 w.heap.size w' (.slice a xs.length d) xs ∧ Below w.heap.size w w' := by
  subst hA
  have hal : Below w.heap.size w (w.alloc (.cells #[] 5)) := (Below.refl _ w).alloc (Nat.le_refl _) _
  have hb' := hb.below hal
  have hnil : ∀ W : World, (binOp .eql 33 (.slice (some g) xs.length c) (.slice none 0 0)).run Tryd.prog W = .ok (.bool false) W := fun _ => rfl
  clear hb
  go_enter Tryd.func41, Tryd.ntmps41
  go_wp2_with (first
    | (at_builtin; refine wpList_bapp8 rfl (.tmp 5) (.tmp 6) rfl w.heap.size (.slice (some ⟨w.heap.size, 0, none⟩) 0 0) [] rfl (Own8.empty w) w.heap.size (some g) xs.length c xs rfl hb' (by simp; omega) (by simp) ?_; intro a1 c1 w2 hO1 hB2; rw [List.nil_append] at hO1 ⊢)
    | fail)
  have O1 := Lib.hid hO1
  have D1 := Lib.hid (hal.trans hB2)
  clear hO1 hB2 hal hb'
  go_wp2
  go_ret
  exact ⟨_, _, rfl, O1.out, D1.out⟩
/-- How many bytes Short tells. -/
def shortN (n : Int) : Nat := min (max n 0).toNat 32
theorem slice_hash (g : Nat) (m : Nat) (hm : m ≤ 32) (w : World) : (Instr.sliceAt 38 (.pointer (some ⟨g, 0, none⟩)) none (some (.int .i64 (m : Int))) none).run Tryd.prog w = .ok (.slice (some ⟨g, 0, none⟩) m 32) w := by
  have e := run_sliceAt_array_h (P := Tryd.prog) w 38 ⟨g, 0, none⟩ (by kernel_rfl) .i64 (m : Int) (by omega) (by rw [show Tryd.prog.arrayLen 38 = 32 by kernel_rfl]; omega)
  rw [e, show Tryd.prog.elem 38 = 5 by kernel_rfl, sizeOf_u8, show Tryd.prog.arrayLen 38 = 32 by kernel_rfl]
  simp only [Result.andThen, slicedAt, Int.toNat_natCast]
  rw [if_neg (by omega), Nat.zero_mul, Addr.add_mid]; rfl
set_option maxRecDepth 100000 in
set_option maxHeartbeats 1000000 in
theorem short_any (hs : List Int) (hb : Bytes hs) (hl : hs.length = 32) (n : Int) (w : World) :
    Calls Tryd.prog 18 #[.agg (nums .u8 32 (bf hs)), .int .i64 n] w fun e w' => ∃ a d, e = .returned (.slice a (shortN n) d) ∧ Own8 (w.heap.size + 1) w' (.slice a (shortN n) d) (hs.take (shortN n)) ∧ Below w.heap.size w w' := by
  have hm : shortN n ≤ 32 := Nat.min_le_right _ _
  have hmi : (if (32 : Int) < (if (0 : Int) > n then 0 else n) then 32 else (if (0 : Int) > n then 0 else n)) = ((shortN n : Nat) : Int) := by
    unfold shortN
    split <;> split <;> omega
  have hmx : (if (0 : Int) > n then (0 : Int) else n) = max n 0 := by omega
  obtain ⟨m, hmm⟩ : ∃ m, shortN n = m := ⟨_, rfl⟩
  rw [hmm] at hmi hm ⊢
  have H1 := Lib.hid (At.new 38 w (nums .u8 32 (bf hs)))
  have HB1 := Lib.hid ((Below.refl _ w).alloc (Nat.le_refl _) (.cells (nums .u8 32 (bf hs)) 38))
  have hz : (w.alloc (.cells (nums .u8 32 (bf hs)) 38)).heap.size = w.heap.size + 1 := by simp
  have hls : (hs.take m).length = m := by rw [List.length_take]; omega
  have hc := clone_any (some ⟨w.heap.size, 0, none⟩) (hs.take m) 32 (by omega) _ rfl (w.alloc (.cells (nums .u8 32 (bf hs)) 38)) ⟨fun x hx => hb x (List.mem_of_mem_take hx), .inr ⟨w.heap.size, 0, 32, rfl, by rw [hz]; omega, fun j hj => by
    rw [hls] at hj
    rw [Nat.zero_add, H1.out.num j (by omega)]
    simp [bf, List.getD, hj]⟩⟩
  rw [hls, hz] at hc
  have HC := Lib.hid hc
  have hsl := slice_hash w.heap.size m hm
  have HH := Lib.hid hz
  clear hc hz
  by_cases h32 : (32 : Int) < max n 0
  · obtain rfl : m = 32 := by
      rw [← hmm]; unfold shortN; omega
    clear hmi hmx hmm hm hls
    go_enter Tryd.func18, Tryd.ntmps18
    go_wp2_with fail
    refine HC.out.mono ?_
    rintro e w2 ⟨a, d, rfl, hO, hB⟩
    have O2 := Lib.hid hO
    have D2 := Lib.hid (HB1.out.trans (hB.mono (show w.heap.size ≤ w.heap.size + 1 by omega)))
    clear hO hB
    go_wp2
    go_ret
    exact ⟨a, d, rfl, O2.out, D2.out⟩
  · by_cases hn : n < 0
    · obtain rfl : m = 0 := by
        rw [← hmm]; unfold shortN; omega
      have hk : max n 0 = 0 := by omega
      clear hmi hmx hmm hm hls h32
      go_enter Tryd.func18, Tryd.ntmps18
      go_wp2_with fail
      refine HC.out.mono ?_
      rintro e w2 ⟨a, d, rfl, hO, hB⟩
      have O2 := Lib.hid hO
      have D2 := Lib.hid (HB1.out.trans (hB.mono (show w.heap.size ≤ w.heap.size + 1 by omega)))
      clear hO hB
      go_wp2
      go_ret
      exact ⟨a, d, rfl, O2.out, D2.out⟩
    · obtain rfl : n = (m : Int) := by
        rw [← hmm]; unfold shortN; omega
      have hk : max (m : Int) 0 = (m : Int) := by omega
      have hk2 : ¬ ((32 : Int) < (m : Int)) := by omega
      have hk3 : ¬ ((m : Int) < 0) := hn
      clear hmi hmx hmm h32 hls hn
      go_enter Tryd.func18, Tryd.ntmps18
      go_wp2_with fail
      refine HC.out.mono ?_
      rintro e w2 ⟨a, d, rfl, hO, hB⟩
      have O2 := Lib.hid hO
      have D2 := Lib.hid (HB1.out.trans (hB.mono (show w.heap.size ≤ w.heap.size + 1 by omega)))
      clear hO hB
      go_wp2
      go_ret
      exact ⟨a, d, rfl, O2.out, D2.out⟩
end Go.Proofs.YtkhhejkemkldgaaDoor
