/- The document's Seal and Open, and what the program's Open tells, in one way. -/
import Derived.Test.YthcijpfpkainhaaCOpen16
import Derived.Test.YthcijpfpkainhaaCOpen32
import Derived.Test.YthcijpfpkainhaaCRef16
import Derived.Test.YthcijpfpkainhaaCRef32
set_option linter.unusedVariables false
namespace Go.Proofs.Ythcijpfpkainhaa
open Go.RowKit Go.Shelf
set_option maxRecDepth 100000 in
set_option maxHeartbeats 1000000 in
theorem rseal16_any (a : Option Addr) (n c : Nat) (xs : List Int) (w : World) (hI : Bys w.heap.size w (.slice a n c) xs) (hl : xs.length ≤ 500000) :
    Calls Try.prog 18 #[.slice a n c, .int .i64 16] w (Made (seal16 xs) w) := by
  have hs := fun w' (hb : Below w.heap.size w w') => ref16_any w.heap.size 65535 (by decide) a n c xs (by omega) w' (hI.below hb)
  rw [show ((65535 : Nat) : Int) = 65535 from rfl] at hs
  have hS := sum16_lt 65535 xs (by decide)
  have e : Hid (seal16 xs = xs ++ [((sum16 65535 xs % 256 : Nat) : Int), ((sum16 65535 xs / 256 : Nat) : Int)]) := (rfl : seal16 xs = _)
  generalize sum16 65535 xs = S at *
  have h1 : IntKind.u8.wrap ((S : Int) % 256) = ((S % 256 : Nat) : Int) := by rw [wrap8]; omega
  have h2 : IntKind.u8.wrap ((S : Int) / 256) = ((S / 256 : Nat) : Int) := by rw [wrap8]; omega
  have b1 : S % 256 < 256 := by omega
  have b2 : S / 256 < 256 := by omega
  generalize S % 256 = lo at *
  generalize S / 256 = hi at *
  go_enter Try.func18, Try.ntmps18
  go_wp2_with (at_builtin; refine wpList_bapp rfl (.tmp 8) (.tmp 9) rfl w.heap.size (.slice none 0 0) [] rfl (Own.nil _ _) w.heap.size a n c xs rfl hI (by simp; omega) (Nat.le_refl _) ?_; intro a1 c1 w1 hO1 hB1)
  refine (hs w1 hB1).mono ?_
  rintro e1 _ ⟨rfl, rfl⟩
  have hJ := bys_alloc w1 [(lo : Int), (hi : Int)] (by intro x hx; simp at hx; rcases hx with rfl | rfl <;> omega) #[.int .u8 lo, .int .u8 hi] rfl 2 2 rfl (0, 0)
  have hB2 : Below w1.heap.size w1 (w1.alloc (.cells #[.int .u8 lo, .int .u8 hi] 5)) := (Below.refl _ _).alloc (Nat.le_refl _) _
  have hO2 := hO1.below hB2 (Nat.le_refl _)
  have hle := hB1.size
  go_wp2_with (at_builtin; refine wpList_bapp rfl (.tmp 15) (.tmp 22) rfl w.heap.size _ ([] ++ xs) rfl hO2 _ (some ⟨w1.heap.size, 0, none⟩) 2 2 [(lo : Int), (hi : Int)] rfl hJ (by simp; omega) (by simp; omega) ?_; intro a3 c3 w3 hO3 hB3)
  exact bodyPost_ret (v := .slice a3 (seal16 xs).length c3) (by simp [results, Try.results18, go_sem, e.out]) rfl ⟨a3, c3, rfl, by rw [e.out]; simpa using hO3, hB1.trans ((hB2.mono hle).trans hB3)⟩
set_option maxRecDepth 100000 in
set_option maxHeartbeats 1000000 in
theorem rseal32_any (a : Option Addr) (n c : Nat) (xs : List Int) (w : World) (hI : Bys w.heap.size w (.slice a n c) xs) (hl : xs.length ≤ 500000) :
    Calls Try.prog 18 #[.slice a n c, .int .i64 32] w (Made (seal32 xs) w) := by
  have hs := fun w' (hb : Below w.heap.size w w') => ref32_any w.heap.size 0 (by decide) a n c xs (by omega) w' (hI.below hb)
  rw [show ((0 : Nat) : Int) = 0 from rfl] at hs
  have hS := sum32_lt 0 xs (by decide)
  have e : Hid (seal32 xs = xs ++ [((sum32 0 xs / 16777216 : Nat) : Int), ((sum32 0 xs / 65536 % 256 : Nat) : Int), ((sum32 0 xs / 256 % 256 : Nat) : Int), ((sum32 0 xs % 256 : Nat) : Int)]) := (rfl : seal32 xs = _)
  generalize sum32 0 xs = S at *
  have h1 : IntKind.u8.wrap ((S : Int) / 16777216) = ((S / 16777216 : Nat) : Int) := by rw [wrap8]; omega
  have h2 : IntKind.u8.wrap ((S : Int) / 65536) = ((S / 65536 % 256 : Nat) : Int) := by rw [wrap8]; omega
  have h3 : IntKind.u8.wrap ((S : Int) / 256) = ((S / 256 % 256 : Nat) : Int) := by rw [wrap8]; omega
  have h4 : IntKind.u8.wrap (S : Int) = ((S % 256 : Nat) : Int) := by rw [wrap8]; omega
  have b1 : S / 16777216 < 256 := by omega
  have b2 : S / 65536 % 256 < 256 := by omega
  have b3 : S / 256 % 256 < 256 := by omega
  have b4 : S % 256 < 256 := by omega
  generalize S / 16777216 = p at *
  generalize S / 65536 % 256 = q at *
  generalize S / 256 % 256 = r at *
  generalize S % 256 = t at *
  go_enter Try.func18, Try.ntmps18
  go_wp2_with (at_builtin; refine wpList_bapp rfl (.tmp 8) (.tmp 9) rfl w.heap.size (.slice none 0 0) [] rfl (Own.nil _ _) w.heap.size a n c xs rfl hI (by simp; omega) (Nat.le_refl _) ?_; intro a1 c1 w1 hO1 hB1)
  refine (hs w1 hB1).mono ?_
  rintro e1 _ ⟨rfl, rfl⟩
  have hJ := bys_alloc w1 [(p : Int), (q : Int), (r : Int), (t : Int)] (by intro x hx; simp at hx; rcases hx with rfl | rfl | rfl | rfl <;> omega) #[.int .u8 p, .int .u8 q, .int .u8 r, .int .u8 t] rfl 4 4 rfl (0, 0)
  have hB2 : Below w1.heap.size w1 (w1.alloc (.cells #[.int .u8 p, .int .u8 q, .int .u8 r, .int .u8 t] 5)) := (Below.refl _ _).alloc (Nat.le_refl _) _
  have hO2 := hO1.below hB2 (Nat.le_refl _)
  have hle := hB1.size
  go_wp2_with (at_builtin; refine wpList_bapp rfl (.tmp 26) (.tmp 38) rfl w.heap.size _ ([] ++ xs) rfl hO2 _ (some ⟨w1.heap.size, 0, none⟩) 4 4 [(p : Int), (q : Int), (r : Int), (t : Int)] rfl hJ (by simp; omega) (by simp; omega) ?_; intro a3 c3 w3 hO3 hB3)
  exact bodyPost_ret (v := .slice a3 (seal32 xs).length c3) (by simp [results, Try.results18, go_sem, e.out]) rfl ⟨a3, c3, rfl, by rw [e.out]; simpa using hO3, hB1.trans ((hB2.mono hle).trans hB3)⟩
end Go.Proofs.Ythcijpfpkainhaa
