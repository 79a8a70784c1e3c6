/- join, Seal16, Seal32: bytes, and their sum behind them, in new memory. -/
import Derived.Test.YtfpgddkihlpafaaCOwn
import Derived.Test.YtfpgddkihlpafaaCAlive
import Derived.Lib.Hide
import Derived.WideShapes
import Derived.Lib.SliceRun
set_option linter.unusedVariables false
namespace Go.Proofs.Ytfpgddkihlpafaa
open Go.RowKit Go.Shelf
/-- The call returns the bytes zs in memory of its own, and nothing that was there has changed. -/
def Made (zs : List Int) (w : World) (e : Ending) (w' : World) : Prop := ∃ a c, e = .returned (.slice a zs.length c) ∧ Own w.heap.size w' (.slice a zs.length c) zs ∧ Below w.heap.size w w'
theorem Own.le {base base' : Nat} {w : World} {v : Value} {xs : List Int} (h : Own base w v xs) (hb : base' ≤ base) : Own base' w v xs :=
  ⟨h.1, h.2.1, h.2.2.elim Or.inl (fun ⟨g, cap, cur, hv, hg, r⟩ => Or.inr ⟨g, cap, cur, hv, Nat.le_trans hb hg, r⟩)⟩
theorem Made.lift {zs : List Int} {w w1 w' : World} {e : Ending} (h : Made zs w1 e w') (hb : Below w.heap.size w w1) : Made zs w e w' := by
  obtain ⟨a, c, he, hO, hB⟩ := h
  exact ⟨a, c, he, hO.le hb.size, hb.trans (hB.mono hb.size)⟩
set_option maxRecDepth 100000 in
set_option maxHeartbeats 1000000 in
theorem join_any (a : Option Addr) (n c : Nat) (xs : List Int) (b : Option Addr) (m d : Nat) (ts : List Int) (w : World) (hI : Bys w.heap.size w (.slice a n c) xs) (hJ : Bys w.heap.size w (.slice b m d) ts) (hl : xs.length + ts.length ≤ 1000000) :
    Calls Try.prog 12 #[.slice a n c, .slice b m d] w (Made (xs ++ ts) w) := by
  obtain ⟨i0, hi, hz0, hz1, hz2⟩ := byte_parts
  obtain ⟨a1, c1, e1⟩ := hI.is
  obtain ⟨b1, d1, e2⟩ := hJ.is
  cases e1
  cases e2
  have HI0 := Lib.hid hi
  have HZ0 := Lib.hid hz0
  have HZ1 := Lib.hid hz1
  have HZ2 := Lib.hid hz2
  clear hi hz0 hz1 hz2
  go_enter Try.func12, Try.ntmps12
  go_wp2_with (first
    | (at_make; refine wpList_make_own _ rfl _ _ 22 rfl w.heap.size 5 i0 (.int .u8 0) 1 Try.underlying22 HI0.out HZ0.out HZ1.out .i64 .i64 _ (xs.length + ts.length) rfl rfl (by omega) (by rw [HZ2.out]; omega) (by unfold maxLen; omega) (Nat.le_refl _) ?_; intro w1 hO1 hG1
       have hB1 : Below w.heap.size w w1 := (Below.refl _ _).grown hG1 (Nat.le_refl _) (by simp)
       have hP1 : Own w.heap.size w1 (.slice (some ⟨w.heap.size, 0, none⟩) 0 (xs.length + ts.length)) [] := ⟨by simp, hO1⟩
       clear hO1 hG1)
    | (at_builtin; refine wpList_bapp rfl (.tmp 12) (.tmp 13) rfl w.heap.size _ [] rfl hP1 w.heap.size a _ c xs rfl (hI.below hB1) (by simp; omega) hB1.size ?_; intro a2 c2' w2 hO2 hB2)
    | (at_builtin; refine wpList_bapp rfl (.tmp 15) (.tmp 16) rfl w.heap.size _ ([] ++ xs) rfl hO2 w.heap.size b _ d ts rfl (hJ.below (hB1.trans hB2)) (by simp; omega) (hB1.trans hB2).size ?_; intro a3 c3' w3 hO3 hB3)
    | fail)
  exact bodyPost_ret (v := .slice a3 (xs.length + ts.length) c3') (by simp [results, Try.results12, go_sem]) rfl ⟨a3, c3', by simp, by simpa using hO3, hB1.trans (hB2.trans hB3)⟩
/-- Bytes, and their sum of 16 behind them; of 32. -/
def seal16 (xs : List Int) : List Int := xs ++ [((sum16 65535 xs % 256 : Nat) : Int), ((sum16 65535 xs / 256 : Nat) : Int)]
def seal32 (xs : List Int) : List Int := xs ++ [((sum32 0 xs / 16777216 : Nat) : Int), ((sum32 0 xs / 65536 % 256 : Nat) : Int), ((sum32 0 xs / 256 % 256 : Nat) : Int), ((sum32 0 xs % 256 : Nat) : Int)]
theorem wrap8 (n : Int) : IntKind.u8.wrap n = n % 256 := IntKind.wrap_u8 n
set_option maxRecDepth 100000 in
set_option maxHeartbeats 1000000 in
theorem seal16_any (a : Option Addr) (n c : Nat) (xs : List Int) (w : World) (hI : Bys w.heap.size w (.slice a n c) xs) (hl : xs.length ≤ 500000) :
    Calls Try.prog 6 #[.slice a n c] w (Made (seal16 xs) w) := by
  have hs := sum16_any a n c xs (by omega) w hI
  have hS := sum16_lt 65535 xs (by decide)
  have e : Hid (seal16 xs = xs ++ [((sum16 65535 xs % 256 : Nat) : Int), ((sum16 65535 xs / 256 : Nat) : Int)]) := (rfl : seal16 xs = _)
  generalize sum16 65535 xs = S at *
  have h1 : IntKind.u8.wrap (S : Int) = ((S % 256 : Nat) : Int) := by rw [wrap8]; omega
  have h2 : IntKind.u8.wrap ((S : Int) / 256) = ((S / 256 : Nat) : Int) := by rw [wrap8]; omega
  have b1 : S % 256 < 256 := by omega
  have b2 : S / 256 < 256 := by omega
  generalize S % 256 = lo at *
  generalize S / 256 = hi at *
  go_enter Try.func6, Try.ntmps6
  go_wp2_with fail
  refine hs.mono ?_
  rintro e1 w1 ⟨rfl, hB1⟩
  go_wp2_with fail
  have hJ := bys_alloc w1 [(lo : Int), (hi : Int)] (by intro x hx; simp at hx; rcases hx with rfl | rfl <;> omega) #[.int .u8 lo, .int .u8 hi] rfl 2 2 rfl (0, 0)
  have hB2 : Below w.heap.size w (w1.alloc (.cells #[.int .u8 lo, .int .u8 hi] 5)) := hB1.alloc hB1.size _
  refine (join_any a n c xs _ 2 2 [(lo : Int), (hi : Int)] _ ((hI.below hB2).mono hB2.size) hJ (by simp; omega)).mono ?_
  rintro e2 w2 hM
  have hM := hM.lift hB2
  rw [← e.out] at hM
  obtain ⟨a3, c3, rfl, hO, hB⟩ := hM
  go_wp2
  exact bodyPost_ret (v := .slice a3 (seal16 xs).length c3) (by simp [results, Try.results6, go_sem]) rfl ⟨a3, c3, rfl, hO, hB⟩
set_option maxRecDepth 100000 in
set_option maxHeartbeats 1000000 in
theorem seal32_any (a : Option Addr) (n c : Nat) (xs : List Int) (w : World) (hI : Bys w.heap.size w (.slice a n c) xs) (hl : xs.length ≤ 500000) :
    Calls Try.prog 8 #[.slice a n c] w (Made (seal32 xs) w) := by
  have hs := sum32_any a n c xs (by omega) w hI
  have hS := sum32_lt 0 xs (by decide)
  have e : Hid (seal32 xs = xs ++ [((sum32 0 xs / 16777216 : Nat) : Int), ((sum32 0 xs / 65536 % 256 : Nat) : Int), ((sum32 0 xs / 256 % 256 : Nat) : Int), ((sum32 0 xs % 256 : Nat) : Int)]) := (rfl : seal32 xs = _)
  generalize sum32 0 xs = S at *
  have h1 : IntKind.u8.wrap ((S : Int) / 16777216) = ((S / 16777216 : Nat) : Int) := by rw [wrap8]; omega
  have h2 : IntKind.u8.wrap ((S : Int) / 65536) = ((S / 65536 % 256 : Nat) : Int) := by rw [wrap8]; omega
  have h3 : IntKind.u8.wrap ((S : Int) / 256) = ((S / 256 % 256 : Nat) : Int) := by rw [wrap8]; omega
  have h4 : IntKind.u8.wrap (S : Int) = ((S % 256 : Nat) : Int) := by rw [wrap8]; omega
  have b1 : S / 16777216 < 256 := by omega
  have b2 : S / 65536 % 256 < 256 := by omega
  have b3 : S / 256 % 256 < 256 := by omega
  have b4 : S % 256 < 256 := by omega
  generalize S / 16777216 = p at *
  generalize S / 65536 % 256 = q at *
  generalize S / 256 % 256 = r at *
  generalize S % 256 = t at *
  go_enter Try.func8, Try.ntmps8
  go_wp2_with fail
  refine hs.mono ?_
  rintro e1 w1 ⟨rfl, hB1⟩
  go_wp2_with fail
  have hJ := bys_alloc w1 [(p : Int), (q : Int), (r : Int), (t : Int)] (by intro x hx; simp at hx; rcases hx with rfl | rfl | rfl | rfl <;> omega) #[.int .u8 p, .int .u8 q, .int .u8 r, .int .u8 t] rfl 4 4 rfl (0, 0)
  have hB2 : Below w.heap.size w (w1.alloc (.cells #[.int .u8 p, .int .u8 q, .int .u8 r, .int .u8 t] 5)) := hB1.alloc hB1.size _
  refine (join_any a n c xs _ 4 4 [(p : Int), (q : Int), (r : Int), (t : Int)] _ ((hI.below hB2).mono hB2.size) hJ (by simp; omega)).mono ?_
  rintro e2 w2 hM
  have hM := hM.lift hB2
  rw [← e.out] at hM
  obtain ⟨a3, c3, rfl, hO, hB⟩ := hM
  go_wp2
  exact bodyPost_ret (v := .slice a3 (seal32 xs).length c3) (by simp [results, Try.results8, go_sem]) rfl ⟨a3, c3, rfl, hO, hB⟩
/-- bytes.Equal, bytes.Clone. -/
theorem equal_yes {B C : Nat} (a : Option Addr) (n c : Nat) (xs : List Int) (b : Option Addr) (m d : Nat) (w : World) (hI : Bys B w (.slice a n c) xs) (hJ : Bys C w (.slice b m d) xs) :
    Calls Try.prog 16 #[.slice a n c, .slice b m d] w fun e w' => e = .returned (.bool true) ∧ w = w' := by
  have c1 := conv_bys hI
  have c2 := conv_bys hJ
  go_enter Try.func16, Try.ntmps16
  go_wp2
  go_ret
  exact ⟨rfl, rfl⟩
theorem equal_no {B C : Nat} (a : Option Addr) (n c : Nat) (xs : List Int) (b : Option Addr) (m d : Nat) (ys : List Int) (w : World) (hI : Bys B w (.slice a n c) xs) (hJ : Bys C w (.slice b m d) ys) (hne : xs ≠ ys) :
    Calls Try.prog 16 #[.slice a n c, .slice b m d] w fun e w' => e = .returned (.bool false) ∧ w = w' := by
  have c1 := conv_bys hI
  have c2 := conv_bys hJ
  have hs : strOfNums xs ≠ strOfNums ys := fun h => hne (str_inj hI.1 hJ.1 h)
  clear hne
  generalize strOfNums xs = s at *
  generalize strOfNums ys = t at *
  have hs2 : (s.toList == t.toList) = false := by
    rw [beq_eq_false_iff_ne]
    intro h
    rw [ByteArray.toList_eq, ByteArray.toList_eq] at h
    exact hs (WideShapes.bytes_inj h)
  clear hs
  go_enter Try.func16, Try.ntmps16
  go_wp2
  go_ret
  exact ⟨rfl, rfl⟩
theorem Own.empty (w : World) : Own w.heap.size (w.alloc (.cells #[] 5)) (.slice (some ⟨w.heap.size, 0, none⟩) 0 0) [] := by
  refine ⟨by simp, by simp [vals], .inr ⟨w.heap.size, 0, #[], rfl, Nat.le_refl _, World.alloc_heap_new w _, Nat.le_refl _, by simp [maxLen], by simp, by simp [vals]⟩⟩
set_option maxHeartbeats 1000000 in
theorem clone_any {B : Nat} (a : Option Addr) (n c : Nat) (xs : List Int) (w : World) (hI : Bys B w (.slice a n c) xs) (hB : B ≤ w.heap.size) (hl : xs.length ≤ 1000000) :
    Calls Try.prog 17 #[.slice a n c] w (Made xs w) := by
  rcases a with _ | ad
  · obtain ⟨hr, ⟨rfl, a', cap, e⟩ | ⟨b, off, cap, e, _⟩⟩ := hI
    · cases e
      have hq := fun w => Lib.run_eql_slice_nil (P := Try.prog) w 22 5 none 0 c 0 0 Try.underlying22
      go_enter Try.func17, Try.ntmps17
      go_wp2
      exact bodyPost_ret (v := .slice none 0 0) (by simp [results, Try.results17, go_sem]) rfl ⟨none, 0, rfl, Own.nil _ _, Below.refl _ _⟩
    · cases e
  · have hO := Own.empty w
    have hB1 : Below w.heap.size w (w.alloc (.cells #[] 5)) := (Below.refl _ _).alloc (Nat.le_refl _) _
    have hb1 : Below B w (w.alloc (.cells #[] 5)) := hB1.mono hB
    have hq := fun w => Lib.run_eql_slice_nil (P := Try.prog) w 22 5 (some ad) n c 0 0 Try.underlying22
    go_enter Try.func17, Try.ntmps17
    go_wp2_with (at_builtin; refine wpList_bapp rfl (.tmp 5) (.tmp 6) rfl w.heap.size _ [] rfl hO B (some ad) n c xs rfl (hI.below hb1) (by simp; omega) (by simp) ?_; intro a2 c2' w2 hO2 hB2)
    exact bodyPost_ret (v := .slice a2 xs.length c2') (by simp [results, Try.results17, go_sem]) rfl ⟨a2, c2', rfl, by simpa using hO2, hB1.trans hB2⟩
end Go.Proofs.Ytfpgddkihlpafaa
