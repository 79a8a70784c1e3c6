/- The walk of the statement CrcPieces. -/
import Derived.Test.YthcijpfpkainhaaCOwn
import Derived.Test.YthcijpfpkainhaaCAlive
set_option linter.unusedVariables false
namespace Go.Proofs.Ythcijpfpkainhaa
open Go.RowKit Go.Shelf
theorem bitsL_append (xs ys : List Int) : bitsL (xs ++ ys) = bitsL xs ++ bitsL ys := by
  unfold bitsL
  rw [List.length_append, Nat.mul_add, upto_add]
  congr 1
  · apply upto_congr
    intro j hj
    unfold bitAt
    simp only [List.getD]; rw [List.getElem?_append_left (by omega)]
  · apply upto_congr
    intro j hj
    unfold bitAt
    rw [show (8 * xs.length + j) / 8 = xs.length + j / 8 by omega, show (8 * xs.length + j) % 8 = j % 8 by omega]
    simp only [List.getD]; rw [List.getElem?_append_right (by omega), Nat.add_sub_cancel_left]
theorem sum16_app (s : Nat) (xs ys : List Int) : sum16 s (xs ++ ys) = sum16 (sum16 s xs) ys := by unfold sum16; rw [bitsL_append, run_append]
theorem sum32_app (s : Nat) (xs ys : List Int) : sum32 s (xs ++ ys) = sum32 (sum32 s xs) ys := by
  unfold sum32; rw [bitsL_append, run_append, xx]
set_option maxRecDepth 100000 in
set_option maxHeartbeats 1000000 in
theorem pieces_any (a : Option Addr) (len cap : Nat) (za : List Int) (b : Option Addr) (lenb capb : Nat) (zb : List Int) (w : World) (ha : IsRow .u8 w a len cap za) (hb : IsRow .u8 w b lenb capb zb) :
    Calls Try.prog 7 #[.slice a len cap, .slice b lenb capb] w fun e w' => e = .returned (.bool true) ∧ Below w.heap.size w w' := by
  by_cases hl : len ≤ 2000 ∧ lenb ≤ 2000
  · obtain ⟨xs, hx, hI⟩ := bys_of_row ha
    obtain ⟨ys, hy, hJ⟩ := bys_of_row hb
    obtain ⟨hl1, hl2⟩ := hl
    have hr : xs.length ≤ 100000000000000 := by omega
    have hr2 : ys.length ≤ 100000000000000 := by omega
    have hr3 : (xs ++ ys).length ≤ 100000000000000 := by simp; omega
    have hs1 := sum16_lt 65535 xs (by decide)
    have hs2 := sum32_lt 0 xs (by decide)
    have e1 := Lib.hid (sum16_app 65535 xs ys)
    have e2 := Lib.hid (sum32_app 0 xs ys)
    have c1 := fun w' (hb : Below w.heap.size w w') => sum16_any a len cap xs hr w' ((hI.below hb).mono hb.size)
    have c2 := fun w' (hb : Below w.heap.size w w') => more16_any (sum16 65535 xs) hs1 b lenb capb ys hr2 w' ((hJ.below hb).mono hb.size)
    have c3 := fun w' (hb : Below w.heap.size w w') => sum32_any a len cap xs hr w' ((hI.below hb).mono hb.size)
    have c4 := fun w' (hb : Below w.heap.size w w') => more32_any (sum32 0 xs) hs2 b lenb capb ys hr2 w' ((hJ.below hb).mono hb.size)
    have HX := Lib.hid hx
    have HY := Lib.hid hy
    clear hx hy ha hb hr2 hs1 hs2
    go_enter Try.func7, Try.ntmps7
    go_wp2_with fail
    refine (alive_any w).mono ?_
    rintro e w1 ⟨rfl, hB1⟩
    have hI1 := hI.below hB1
    have hJ1 := hJ.below hB1
    have hle := hB1.size
    go_wp2_with (first
      | (at_builtin; refine wpList_bapp rfl (.tmp 21) (.tmp 22) rfl w.heap.size (.slice none 0 0) [] rfl (Own.nil _ _) w.heap.size a len cap xs rfl hI1 (by simpa using hr) hle ?_; intro a2 c2' w2 hO2 hB2)
      | (at_builtin; refine wpList_bapp rfl (.tmp 23) (.tmp 24) rfl w.heap.size (.slice a2 ([] ++ xs).length c2') ([] ++ xs) rfl hO2 w.heap.size b lenb capb ys rfl (hJ1.below hB2) (by simpa using hr3) (Nat.le_trans hle hB2.size) ?_; intro a3 c3' w3 hO3 hB3)
      | fail)
    have hB3' : Below w.heap.size w w3 := hB1.trans (hB2.trans hB3)
    have hO : Own w.heap.size w3 (.slice a3 (xs.length + ys.length) c3') (xs ++ ys) := by simpa using hO3
    have hbo := hO.bys
    have hlo := hr3
    clear hO3 hO2 hI1 hJ1
    refine (c1 w3 hB3').mono ?_
    rintro e w4 ⟨rfl, hB4⟩
    have hB4' := hB3'.trans (hB4.mono hB3'.size)
    go_wp2_with fail
    refine (c2 w4 hB4').mono ?_
    rintro e w5 ⟨rfl, hB5⟩
    have hB5' := hB4'.trans (hB5.mono hB4'.size)
    have h35 := hB4.trans (hB5.mono hB4.size)
    go_wp2_with fail
    refine (sum16_any _ _ _ (xs ++ ys) hlo w5 (((by simpa using hbo : Bys w3.heap.size w3 (.slice a3 _ c3') (xs ++ ys)).below h35).mono h35.size)).mono ?_
    rintro e w6 ⟨rfl, hB6⟩
    rw [e1.out]
    have hB6' := hB5'.trans (hB6.mono hB5'.size)
    have h36 := h35.trans (hB6.mono h35.size)
    go_wp2_with fail
    refine (c3 w6 hB6').mono ?_
    rintro e w7 ⟨rfl, hB7⟩
    have hB7' := hB6'.trans (hB7.mono hB6'.size)
    have h37 := h36.trans (hB7.mono h36.size)
    go_wp2_with fail
    refine (c4 w7 hB7').mono ?_
    rintro e w8 ⟨rfl, hB8⟩
    have hB8' := hB7'.trans (hB8.mono hB7'.size)
    have h38 := h37.trans (hB8.mono h37.size)
    go_wp2_with fail
    refine (sum32_any _ _ _ (xs ++ ys) hlo w8 (((by simpa using hbo : Bys w3.heap.size w3 (.slice a3 _ c3') (xs ++ ys)).below h38).mono h38.size)).mono ?_
    rintro e w9 ⟨rfl, hB9⟩
    rw [e2.out]
    have hB9' := hB8'.trans (hB9.mono hB8'.size)
    go_wp2
    go_ret
    exact ⟨rfl, hB9'⟩
  · have hg : ((decide (2000 < len)) || (decide (2000 < lenb))) = true := by simp; omega
    clear ha hb
    by_cases h1 : 2000 < len
    · clear hl hg
      go_enter Try.func7, Try.ntmps7
      go_wp2_with fail
      refine (alive_any w).mono ?_
      rintro e w1 ⟨rfl, hB1⟩
      go_wp2
      go_ret
      exact ⟨rfl, hB1⟩
    · have h2 : 2000 < lenb := by omega
      have h1' : len ≤ 2000 := by omega
      clear hl hg h1
      go_enter Try.func7, Try.ntmps7
      go_wp2_with fail
      refine (alive_any w).mono ?_
      rintro e w1 ⟨rfl, hB1⟩
      go_wp2
      go_ret
      exact ⟨rfl, hB1⟩
end Go.Proofs.Ythcijpfpkainhaa
