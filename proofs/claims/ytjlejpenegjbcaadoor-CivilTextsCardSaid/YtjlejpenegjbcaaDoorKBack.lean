/- The statement CivilBack, of anything: what its calls answer, and the walk. -/
import Derived.Test.YtjlejpenegjbcaaDoorKBackW
import Derived.Test.YtjlejpenegjbcaaDoorKNext
import Derived.Test.YtjlejpenegjbcaaDoorKDays
set_option linter.unusedVariables false
set_option linter.unusedSimpArgs false
namespace Go.Proofs.YtjlejpenegjbcaaDoor
open Go.RowKit Go.Shelf
/-- The numbers of a text of a date's shape, and of a moment's. -/
theorem num_date (a b c e f g h i : Int) : num dateF [a, b, c, e, 45, f, g, 45, h, i] 10 0 = (a - 48) * 1000 + (b - 48) * 100 + (c - 48) * 10 + (e - 48) ∧ num dateF [a, b, c, e, 45, f, g, 45, h, i] 10 1 = (f - 48) * 10 + (g - 48) ∧ num dateF [a, b, c, e, 45, f, g, 45, h, i] 10 2 = (h - 48) * 10 + (i - 48) := by
  refine ⟨?_, ?_, ?_⟩ <;> simp [num, dateF, plc] <;> omega
theorem num_mom (a b c e f g h i j k l n o q : Int) : num momF [a, b, c, e, 45, f, g, 45, h, i, 84, j, k, 58, l, n, 58, o, q] 19 0 = (a - 48) * 1000 + (b - 48) * 100 + (c - 48) * 10 + (e - 48) ∧ num momF [a, b, c, e, 45, f, g, 45, h, i, 84, j, k, 58, l, n, 58, o, q] 19 1 = (f - 48) * 10 + (g - 48) ∧ num momF [a, b, c, e, 45, f, g, 45, h, i, 84, j, k, 58, l, n, 58, o, q] 19 2 = (h - 48) * 10 + (i - 48) ∧ num momF [a, b, c, e, 45, f, g, 45, h, i, 84, j, k, 58, l, n, 58, o, q] 19 3 = (j - 48) * 10 + (k - 48) ∧ num momF [a, b, c, e, 45, f, g, 45, h, i, 84, j, k, 58, l, n, 58, o, q] 19 4 = (l - 48) * 10 + (n - 48) ∧ num momF [a, b, c, e, 45, f, g, 45, h, i, 84, j, k, 58, l, n, 58, o, q] 19 5 = (o - 48) * 10 + (q - 48) := by
  refine ⟨?_, ?_, ?_, ?_, ?_, ?_⟩ <;> simp [num, momF, plc] <;> omega
def digit (x : Int) : Prop := 48 ≤ x ∧ x ≤ 57
theorem fits_date (a b c e x f g z h i : Int) : Fits dateF [a, b, c, e, x, f, g, z, h, i] ↔ digit a ∧ digit b ∧ digit c ∧ digit e ∧ x = 45 ∧ digit f ∧ digit g ∧ z = 45 ∧ digit h ∧ digit i := by
  unfold Fits
  constructor
  · rintro ⟨_, H⟩
    exact ⟨H 0 (by decide), H 1 (by decide), H 2 (by decide), H 3 (by decide), H 4 (by decide), H 5 (by decide), H 6 (by decide), H 7 (by decide), H 8 (by decide), H 9 (by decide)⟩
  · rintro ⟨h0, h1, h2, h3, h4, h5, h6, h7, h8, h9⟩
    refine ⟨rfl, fun k hk => ?_⟩
    have hk : k < 10 := hk
    obtain rfl | rfl | rfl | rfl | rfl | rfl | rfl | rfl | rfl | rfl : k = 0 ∨ k = 1 ∨ k = 2 ∨ k = 3 ∨ k = 4 ∨ k = 5 ∨ k = 6 ∨ k = 7 ∨ k = 8 ∨ k = 9 := by omega
    all_goals assumption
theorem fits_mom (a b c e x f g z h i t j k u l n v o q : Int) : Fits momF [a, b, c, e, x, f, g, z, h, i, t, j, k, u, l, n, v, o, q] ↔ (digit a ∧ digit b ∧ digit c ∧ digit e ∧ x = 45 ∧ digit f ∧ digit g ∧ z = 45 ∧ digit h ∧ digit i) ∧ t = 84 ∧ digit j ∧ digit k ∧ u = 58 ∧ digit l ∧ digit n ∧ v = 58 ∧ digit o ∧ digit q := by
  unfold Fits
  constructor
  · rintro ⟨_, H⟩
    exact ⟨⟨H 0 (by decide), H 1 (by decide), H 2 (by decide), H 3 (by decide), H 4 (by decide), H 5 (by decide), H 6 (by decide), H 7 (by decide), H 8 (by decide), H 9 (by decide)⟩, H 10 (by decide), H 11 (by decide), H 12 (by decide), H 13 (by decide), H 14 (by decide), H 15 (by decide), H 16 (by decide), H 17 (by decide), H 18 (by decide)⟩
  · rintro ⟨⟨h0, h1, h2, h3, h4, h5, h6, h7, h8, h9⟩, h10, h11, h12, h13, h14, h15, h16, h17, h18⟩
    refine ⟨rfl, fun k hk => ?_⟩
    have hk : k < 19 := hk
    obtain rfl | rfl | rfl | rfl | rfl | rfl | rfl | rfl | rfl | rfl | rfl | rfl | rfl | rfl | rfl | rfl | rfl | rfl | rfl : k = 0 ∨ k = 1 ∨ k = 2 ∨ k = 3 ∨ k = 4 ∨ k = 5 ∨ k = 6 ∨ k = 7 ∨ k = 8 ∨ k = 9 ∨ k = 10 ∨ k = 11 ∨ k = 12 ∨ k = 13 ∨ k = 14 ∨ k = 15 ∨ k = 16 ∨ k = 17 ∨ k = 18 := by omega
    all_goals assumption
theorem dateL_eq (y m d : Int) : dateL y m d = [48 + y / 100 / 10 % 10, 48 + y / 100 % 10, 48 + y % 100 / 10 % 10, 48 + y % 100 % 10, 45, 48 + m / 10 % 10, 48 + m % 10, 45, 48 + d / 10 % 10, 48 + d % 10] := rfl
theorem momL_eq (y m d h mi s : Int) : momL y m d h mi s = [48 + y / 100 / 10 % 10, 48 + y / 100 % 10, 48 + y % 100 / 10 % 10, 48 + y % 100 % 10, 45, 48 + m / 10 % 10, 48 + m % 10, 45, 48 + d / 10 % 10, 48 + d % 10, 84, 48 + h / 10 % 10, 48 + h % 10, 58, 48 + mi / 10 % 10, 48 + mi % 10, 58, 48 + s / 10 % 10, 48 + s % 10] := rfl
theorem dlen_31 {y m : Int} : dlen y m ≤ 31 := dlen_bounds.2
/-- What the text of a moment says. -/
theorem says_mom {y m d h mi s : Int} (hm : MomIs y m d h mi s) : Says momF (momL y m d h mi s) ∧ num momF (momL y m d h mi s) 19 0 = y ∧ num momF (momL y m d h mi s) 19 1 = m ∧ num momF (momL y m d h mi s) 19 2 = d ∧ num momF (momL y m d h mi s) 19 3 = h ∧ num momF (momL y m d h mi s) 19 4 = mi ∧ num momF (momL y m d h mi s) 19 5 = s := by
  have hc := hm
  obtain ⟨⟨h1, h2, h3, h4, h5, h6⟩, ⟨k1, k2⟩, ⟨k3, k4⟩, k5, k6⟩ := hm
  have := dlen_31 (y := y) (m := m)
  rw [momL_eq]
  obtain ⟨e0, e1, e2, e3, e4, e5⟩ := num_mom (48 + y / 100 / 10 % 10) (48 + y / 100 % 10) (48 + y % 100 / 10 % 10) (48 + y % 100 % 10) (48 + m / 10 % 10) (48 + m % 10) (48 + d / 10 % 10) (48 + d % 10) (48 + h / 10 % 10) (48 + h % 10) (48 + mi / 10 % 10) (48 + mi % 10) (48 + s / 10 % 10) (48 + s % 10)
  have q0 := e0.trans (show _ = y by omega)
  have q1 := e1.trans (show _ = m by omega)
  have q2 := e2.trans (show _ = d by omega)
  have q3 := e3.trans (show _ = h by omega)
  have q4 := e4.trans (show _ = mi by omega)
  have q5 := e5.trans (show _ = s by omega)
  clear e0 e1 e2 e3 e4 e5
  refine ⟨⟨?_, ?_⟩, q0, q1, q2, q3, q4, q5⟩
  · rw [fits_mom]
    unfold digit
    omega
  · rw [show momF.length = 19 from rfl, q0, q1, q2, q3, q4, q5]
    exact hc
theorem ten_cells {xs : List Int} (h : xs.length = 10) : ∃ a b c e x f g z h i, xs = [a, b, c, e, x, f, g, z, h, i] := by
  match xs, h with
  | [a, b, c, e, x, f, g, z, h, i], _ => exact ⟨a, b, c, e, x, f, g, z, h, i, rfl⟩
/-- A text of a date is the text of what it says. -/
theorem date_text {xs : List Int} (h : Fits dateF xs) : dateL (num dateF xs 10 0) (num dateF xs 10 1) (num dateF xs 10 2) = xs := by
  obtain ⟨a, b, c, e, x, f, g, z, j, i, rfl⟩ := ten_cells h.1
  rw [fits_date] at h
  unfold digit at h
  obtain ⟨h0, h1, h2, h3, rfl, h5, h6, rfl, h8, h9⟩ := h
  obtain ⟨e0, e1, e2⟩ := num_date a b c e f g j i
  rw [e0, e1, e2, dateL_eq]
  congr 1; · omega
  congr 1; · omega
  congr 1; · omega
  congr 1; · omega
  congr 2; · omega
  congr 1; · omega
  congr 2; · omega
  congr 1; · omega
abbrev CA (f : FuncId) (args : Array Value) (r : Value) : Prop := ∀ X, TabsM X → Calls Tryd.prog f args X fun e w' => e = .returned r ∧ Below X.heap.size X w'
theorem stA (n : Int) : ∃ a1 a2 a3 e1 n1 f1 : Int, CA 14 #[.int .i64 n] (.tuple #[dateV a1 a2 a3, .int .i64 e1]) ∧ CA 12 #[dateV a1 a2 a3] (.tuple #[.int .i64 n1, .int .i64 f1]) ∧ ((e1 = 0 ∧ f1 = 0 ∧ n1 = n) ∨ e1 = 60) := by
  by_cases h : 0 ≤ n ∧ n ≤ 2932896
  · obtain ⟨a, b, c, hi⟩ := date_exists n h.1 h.2
    exact ⟨a, b, c, 0, n, 0, fun X hX => of_is n a b c hi X hX.1, fun X hX => day_is n a b c hi X hX.1, .inl ⟨rfl, rfl, rfl⟩⟩
  · exact ⟨0, 0, 0, 60, 0, 60, fun X hX => of_no n X hX.1 h, fun X hX => day_no 0 0 0 X hX.1 (by decide), .inr rfl⟩
theorem stB (y m d : Int) : ∃ k2 g2 c1 c2 c3 h2 : Int, CA 12 #[dateV y m d] (.tuple #[.int .i64 k2, .int .i64 g2]) ∧ CA 14 #[.int .i64 k2] (.tuple #[dateV c1 c2 c3, .int .i64 h2]) ∧ ((g2 = 0 ∧ h2 = 0 ∧ c1 = y ∧ c2 = m ∧ c3 = d) ∨ g2 = 60) := by
  by_cases h : May y m d
  · exact ⟨dayOf y m d, 0, y, m, d, 0, fun X hX => day_yes y m d X hX.1 h, fun X hX => of_is _ y m d ⟨h, rfl⟩ X hX.1, .inl ⟨rfl, rfl, rfl, rfl, rfl⟩⟩
  · exact ⟨0, 60, 1970, 1, 1, 0, fun X hX => day_no y m d X hX.1 h, fun X hX => of_is 0 1970 1 1 (by decide) X hX.1, .inr rfl⟩
theorem stC (t : Int) : ∃ x1 x2 x3 x4 x5 x6 i3 y3 j3 : Int, CA 24 #[.int .i64 t] (.tuple #[momV x1 x2 x3 x4 x5 x6, .int .i64 i3]) ∧ CA 23 #[momV x1 x2 x3 x4 x5 x6] (.tuple #[.int .i64 y3, .int .i64 j3]) ∧ ((i3 = 0 ∧ j3 = 0 ∧ y3 = t) ∨ i3 = 60) := by
  by_cases h : 0 ≤ t ∧ t < 253402300800
  · obtain ⟨a, b, c, hi⟩ := date_exists (t / 86400) (by omega) (by omega)
    refine ⟨a, b, c, t % 86400 / 3600, t % 3600 / 60, t % 60, 0, _, _, fun X hX => at_yes t h.1 h.2 a b c hi X hX.1, fun X hX => instant_any _ _ _ _ _ _ X hX.1, .inl ?_⟩
    have hm : MomIs a b c (t % 86400 / 3600) (t % 3600 / 60) (t % 60) := ⟨hi.1, by unfold TimeIs; omega⟩
    refine ⟨rfl, by unfold momE; rw [if_pos hm], ?_⟩
    unfold instV secOf; rw [if_pos hm, ← hi.2]; omega
  · exact ⟨0, 0, 0, 0, 0, 0, 60, _, _, fun X hX => at_no t h X, fun X hX => instant_any _ _ _ _ _ _ X hX.1, .inr rfl⟩
theorem momL_bytes {y m d h mi s : Int} : ∀ x ∈ momL y m d h mi s, 0 ≤ x ∧ x < 256 := by
  rw [momL_eq]
  simp only [List.forall_mem_cons]
  refine ⟨?_, ?_, ?_, ?_, ?_, ?_, ?_, ?_, ?_, ?_, ?_, ?_, ?_, ?_, ?_, ?_, ?_, ?_, ?_, ?_⟩ <;> first | omega | (intro x hx; cases hx)
theorem no_empty : ¬ Says momF (strB (strOfNums [])) := fun h => absurd h.1.1 (by rw [strB_strOf [] (by simp)]; decide)
theorem stD (y m d h mi x : Int) : ∃ (z : ByteArray) (a4 w1 w2 w3 w4 w5 w6 b4 : Int), CA 28 #[momV y m d h mi x] (.tuple #[.string z, .int .i64 a4]) ∧ CA 31 #[.string z] (.tuple #[momV w1 w2 w3 w4 w5 w6, .int .i64 b4]) ∧ ((a4 = 0 ∧ b4 = 0 ∧ w1 = y ∧ w2 = m ∧ w3 = d ∧ w4 = h ∧ w5 = mi ∧ w6 = x) ∨ a4 = 60) := by
  by_cases hm : MomIs y m d h mi x
  · obtain ⟨hs, e0, e1, e2, e3, e4, e5⟩ := says_mom hm
    refine ⟨strOfNums (momL y m d h mi x), 0, y, m, d, h, mi, x, 0, fun X hX => textAt_yes y m d h mi x hm X hX, fun X hX => ?_, .inl ⟨rfl, rfl, rfl, rfl, rfl, rfl, rfl, rfl⟩⟩
    have := parseAt_yes (strOfNums (momL y m d h mi x)) (by rw [strB_strOf _ momL_bytes]; exact hs) X hX.1
    rw [strB_strOf _ momL_bytes, e0, e1, e2, e3, e4, e5] at this
    exact this
  · exact ⟨strOfNums [], 60, 0, 0, 0, 0, 0, 0, 60, fun X hX => textAt_no y m d h mi x hm X hX, fun X hX => parseAt_no (strOfNums []) (by decide) no_empty X hX.1, .inr rfl⟩
theorem stE (s : ByteArray) (hs : s.size ≤ 100) : ∃ (u1 u2 u3 p5 : Int) (v : ByteArray) (q5 : Int), CA 29 #[.string s] (.tuple #[dateV u1 u2 u3, .int .i64 p5]) ∧ CA 27 #[dateV u1 u2 u3] (.tuple #[.string v, .int .i64 q5]) ∧ ((p5 = 0 ∧ q5 = 0 ∧ v = s) ∨ p5 = 60) := by
  by_cases h : Says dateF (strB s)
  · have hm := ((says_date _).1 h).2
    exact ⟨num dateF (strB s) 10 0, num dateF (strB s) 10 1, num dateF (strB s) 10 2, 0, strOfNums (dateL (num dateF (strB s) 10 0) (num dateF (strB s) 10 1) (num dateF (strB s) 10 2)), 0, fun X hX => parse_yes s h X hX.1, fun X hX => text_yes _ _ _ hm X hX, .inl ⟨rfl, rfl, by rw [date_text h.1, strOf_strB]⟩⟩
  · exact ⟨0, 0, 0, 60, strOfNums [], 60, fun X hX => parse_no s (by omega) h X hX.1, fun X hX => text_no 0 0 0 (by decide) X hX.1, .inr rfl⟩
set_option maxRecDepth 100000 in
set_option maxHeartbeats 4000000 in
theorem back_long (n t y m d h mi x : Int) (s : ByteArray) (hs : 100 < s.size) (w : World) (hT : TabsM w) :
    Calls Tryd.prog 7 #[.int .i64 n, .int .i64 t, momV y m d h mi x, .string s] w fun e w' => e = .returned (.bool true) ∧ Below w.heap.size w w' := by
  have HT := Lib.hid (show ∀ X, Below w.heap.size w X → TabsM X from fun X hX => hT.next hX)
  have HB0 := Lib.hid ((Below.refl _ w).alloc (Nat.le_refl _) (.cells #[.int .i64 y, .int .i64 m, .int .i64 d, .int .i64 h, .int .i64 mi, .int .i64 x] 40))
  have hsz : decide (100 < (s.size : Int)) = true := decide_eq_true (by omega)
  clear hT
  go_enter Tryd.func7, Tryd.ntmps7
  go_wp2_with fail
  refine (alive_any _ (HT.out _ HB0.out).1).mono ?_
  rintro e W1 ⟨rfl, hB⟩
  have HB1 := Lib.hid (HB0.out.trans (hB.mono HB0.out.size))
  clear hB
  go_wp2_with fail
  go_ret
  exact ⟨rfl, HB1.out⟩
theorem back_any (n t y m d h mi x : Int) (s : ByteArray) (w : World) (hT : TabsM w) :
    Calls Tryd.prog 7 #[.int .i64 n, .int .i64 t, momV y m d h mi x, .string s] w fun e w' => e = .returned (.bool true) ∧ Below w.heap.size w w' := by
  by_cases hs : 100 < s.size
  · exact back_long n t y m d h mi x s hs w hT
  · have hs : s.size ≤ 100 := by omega
    obtain ⟨a1, a2, a3, e1, n1, f1, A1, A2, FA⟩ := stA n
    obtain ⟨k2, g2, c1, c2, c3, h2, B1, B2, FB⟩ := stB y m d
    obtain ⟨x1, x2, x3, x4, x5, x6, i3, y3, j3, C1, C2, FC⟩ := stC t
    obtain ⟨z, a4, w1, w2, w3, w4, w5, w6, b4, D1, D2, FD⟩ := stD y m d h mi x
    obtain ⟨u1, u2, u3, p5, v, q5, E1, E2, FE⟩ := stE s hs
    exact back_walk n t y m d h mi x s hs w hT a1 a2 a3 e1 n1 f1 k2 g2 c1 c2 c3 h2 x1 x2 x3 x4 x5 x6 i3 y3 j3 z a4 w1 w2 w3 w4 w5 w6 b4 u1 u2 u3 p5 v q5 A1 A2 FA B1 B2 FB C1 C2 FC D1 D2 FD E1 E2 FE
#print axioms back_any
end Go.Proofs.YtjlejpenegjbcaaDoor
