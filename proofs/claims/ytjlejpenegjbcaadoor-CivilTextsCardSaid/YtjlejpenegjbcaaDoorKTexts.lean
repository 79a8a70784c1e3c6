/- The statement CivilTexts, of anything: what its calls answer, and the walk. -/
import Derived.Test.YtjlejpenegjbcaaDoorKTextsW
set_option linter.unusedVariables false
set_option linter.unusedSimpArgs false
namespace Go.Proofs.YtjlejpenegjbcaaDoor
open Go.RowKit Go.Shelf
theorem dateMade (y m d : Int) (h : May y m d) : DateMade y m d (strOfNums (dateL y m d)) := by
  have := dlen_31 (y := y) (m := m)
  obtain ⟨h1, h2, h3, h4, h5, h6⟩ := h
  exact ⟨strOfNums (fourL y), strOfNums (twoL m), strOfNums (twoL d), strOfNums (fourL y ++ [45]), strOfNums (fourL y ++ [45] ++ twoL m), strOfNums (fourL y ++ [45] ++ twoL m ++ [45]),
    fun X => four_any y (by omega) (by omega) X, fun X => two_any m (by omega) (by omega) X, fun X => two_any d (by omega) (by omega) X, ⟨str_app _ [45], str_app _ _, str_app _ [45], str_app _ _⟩,
    by rw [strOfNums_size]; rfl, by rw [strOfNums_size]; rfl, by rw [strOfNums_size]; rfl, by rw [strOfNums_size]; rfl, by rw [strOfNums_size]; rfl, by rw [strOfNums_size]; rfl, by rw [strOfNums_size]; rfl⟩
theorem clockMade (y m d h mi x : Int) (ht : TimeIs h mi x) : ClockMade h mi x (strOfNums (dateL y m d)) (strOfNums (momL y m d h mi x)) := by
  obtain ⟨⟨h1, h2⟩, ⟨h3, h4⟩, h5, h6⟩ := ht
  exact ⟨strOfNums (twoL h), strOfNums (twoL mi), strOfNums (twoL x), strOfNums (dateL y m d ++ [84]), strOfNums (dateL y m d ++ [84] ++ twoL h), strOfNums (dateL y m d ++ [84] ++ twoL h ++ [58]), strOfNums (dateL y m d ++ [84] ++ twoL h ++ [58] ++ twoL mi), strOfNums (dateL y m d ++ [84] ++ twoL h ++ [58] ++ twoL mi ++ [58]),
    fun X => two_any h (by omega) (by omega) X, fun X => two_any mi (by omega) (by omega) X, fun X => two_any x (by omega) (by omega) X, ⟨str_app _ [84], str_app _ _, str_app _ [58], str_app _ _, str_app _ [58], str_app _ _⟩,
    by rw [strOfNums_size]; rfl, by rw [strOfNums_size]; rfl, by rw [strOfNums_size]; rfl, by rw [strOfNums_size]; rfl, by rw [strOfNums_size]; rfl, by rw [strOfNums_size]; rfl, by rw [strOfNums_size]; rfl, by rw [strOfNums_size]; rfl, by rw [strOfNums_size]; rfl⟩
theorem stT (y m d h mi x : Int) : ∃ (B1 B2 B3 : Bool) (DS CS : ByteArray) (ea eb : Int), (∀ X, Calls Tryd.prog 10 #[.int .i64 y, .int .i64 m, .int .i64 d] X fun e w' => e = .returned (.bool B1) ∧ X = w') ∧ (∀ X, Calls Tryd.prog 22 #[.int .i64 h, .int .i64 mi, .int .i64 x] X fun e w' => e = .returned (.bool B3) ∧ X = w') ∧ B2 = (B1 && B3) ∧
    ((B1 = true ∧ DateMade y m d DS) ∨ (B1 = false ∧ DS = ⟨#[]⟩)) ∧ ((B2 = true ∧ ClockMade h mi x DS CS) ∨ (B2 = false ∧ CS = ⟨#[]⟩)) ∧ (∀ X, TabsM X → Calls Tryd.prog 27 #[dateV y m d] X fun e w' => e = .returned (.tuple #[.string DS, .int .i64 ea]) ∧ Below X.heap.size X w') ∧ (∀ X, TabsM X → Calls Tryd.prog 28 #[momV y m d h mi x] X fun e w' => e = .returned (.tuple #[.string CS, .int .i64 eb]) ∧ Below X.heap.size X w') ∧
    ((ea = 0 ∧ B1 = true) ∨ (ea = 60 ∧ B1 = false)) ∧ ((eb = 0 ∧ B2 = true) ∨ (eb = 60 ∧ B2 = false)) := by
  have h1 := fun X => rmay_any y m d X
  have h2 := fun X => rclock_any h mi x X
  by_cases c1 : May y m d
  · rw [decide_eq_true c1] at h1
    by_cases c2 : TimeIs h mi x
    · rw [decide_eq_true c2] at h2
      exact ⟨true, true, true, strOfNums (dateL y m d), strOfNums (momL y m d h mi x), 0, 0, h1, h2, rfl, .inl ⟨rfl, dateMade y m d c1⟩, .inl ⟨rfl, clockMade y m d h mi x c2⟩, fun X hX => text_yes y m d c1 X hX, fun X hX => textAt_yes y m d h mi x ⟨c1, c2⟩ X hX, .inl ⟨rfl, rfl⟩, .inl ⟨rfl, rfl⟩⟩
    · rw [decide_eq_false c2] at h2
      exact ⟨true, false, false, strOfNums (dateL y m d), ⟨#[]⟩, 0, 60, h1, h2, rfl, .inl ⟨rfl, dateMade y m d c1⟩, .inr ⟨rfl, rfl⟩, fun X hX => text_yes y m d c1 X hX, fun X hX => textAt_no y m d h mi x (fun hc => c2 hc.2) X hX, .inl ⟨rfl, rfl⟩, .inr ⟨rfl, rfl⟩⟩
  · rw [decide_eq_false c1] at h1
    exact ⟨false, false, decide (TimeIs h mi x), ⟨#[]⟩, ⟨#[]⟩, 60, 60, h1, h2, rfl, .inr ⟨rfl, rfl⟩, .inr ⟨rfl, rfl⟩, fun X hX => text_no y m d c1 X hX.1, fun X hX => textAt_no y m d h mi x (fun hc => c1 hc.1) X hX, .inr ⟨rfl, rfl⟩, .inr ⟨rfl, rfl⟩⟩
theorem stP (s : ByteArray) (hs : s.size ≤ 100) : ∃ a1 a2 a3 pe : Int, (∀ X, TabsM X → Calls Tryd.prog 29 #[.string s] X fun e w' => e = .returned (.tuple #[dateV a1 a2 a3, .int .i64 pe]) ∧ Below X.heap.size X w') ∧ (∀ X, Calls Tryd.prog 30 #[.string s] X fun e w' => e = .returned (.tuple #[.int .i64 a1, .int .i64 a2, .int .i64 a3, .int .i64 pe]) ∧ X = w') := by
  by_cases h10 : s.size = 10
  · obtain ⟨a, b, c, e, x, f, g, z, h, i, hx⟩ := ten_cells (xs := strB s) (by rw [strB_length]; exact h10)
    have hr := fun X => rparse_list s a b c e x f g z h i hx X
    by_cases hy : Says dateF (strB s)
    · have hp := fun X (hX : TabsM X) => parse_yes s hy X hX.1
      rw [hx] at hy hp
      obtain ⟨e0, e1, e2⟩ := saysR_num hy
      rw [e0, e1, e2] at hp
      rw [if_pos ((saysR_date a b c e x f g z h i).1 hy)] at hr
      exact ⟨_, _, _, 0, hp, hr⟩
    · have hp := fun X (hX : TabsM X) => parse_no s (by omega) hy X hX.1
      rw [hx] at hy
      rw [if_neg (fun hc => hy ((saysR_date a b c e x f g z h i).2 hc))] at hr
      exact ⟨0, 0, 0, 60, hp, hr⟩
  · have hy : ¬ Says dateF (strB s) := fun hc => h10 (by have := hc.1.1; rw [strB_length] at this; exact this)
    exact ⟨0, 0, 0, 60, fun X hX => parse_no s (by omega) hy X hX.1, fun X => rparse_len s h10 X⟩
theorem nineteen_cells {xs : List Int} (hl : xs.length = 19) : ∃ a b c e x f g z h i t j k u l n v o q, xs = [a, b, c, e, x, f, g, z, h, i, t, j, k, u, l, n, v, o, q] := by
  match xs, hl with
  | [a, b, c, e, x, f, g, z, h, i, t, j, k, u, l, n, v, o, q], _ => exact ⟨a, b, c, e, x, f, g, z, h, i, t, j, k, u, l, n, v, o, q, rfl⟩
theorem stQ (s : ByteArray) (hs : s.size ≤ 100) : ∃ b1 b2 b3 b4 b5 b6 be c1 c2 c3 ce d1 d2 d3 de : Int, (∀ X, TabsM X → Calls Tryd.prog 31 #[.string s] X fun e w' => e = .returned (.tuple #[momV b1 b2 b3 b4 b5 b6, .int .i64 be]) ∧ Below X.heap.size X w') ∧
    ((s.size = 19 ∧ (∀ X, Calls Tryd.prog 30 #[.string (s.extract 0 10)] X fun e w' => e = .returned (.tuple #[.int .i64 c1, .int .i64 c2, .int .i64 c3, .int .i64 ce]) ∧ X = w') ∧ (∀ X, Calls Tryd.prog 32 #[.string (s.extract 10 19)] X fun e w' => e = .returned (.tuple #[.int .i64 d1, .int .i64 d2, .int .i64 d3, .int .i64 de]) ∧ X = w') ∧
      ((be = 0 ∧ ce = 0 ∧ de = 0 ∧ b1 = c1 ∧ b2 = c2 ∧ b3 = c3 ∧ b4 = d1 ∧ b5 = d2 ∧ b6 = d3) ∨ (be = 60 ∧ (b1 = 0 ∧ b2 = 0 ∧ b3 = 0 ∧ b4 = 0 ∧ b5 = 0 ∧ b6 = 0) ∧ ((ce = 0 ∧ de = 60) ∨ ce = 60)))) ∨
      (s.size ≠ 19 ∧ be = 60 ∧ (b1 = 0 ∧ b2 = 0 ∧ b3 = 0 ∧ b4 = 0 ∧ b5 = 0 ∧ b6 = 0))) := by
  by_cases h19 : s.size = 19
  · obtain ⟨a, b, c, e, x, f, g, z, h, i, t, j, k, u, l, n, v, o, q, hx⟩ := nineteen_cells (xs := strB s) (by rw [strB_length]; exact h19)
    have hr := fun X => rparse_list (s.extract 0 10) a b c e x f g z h i (by rw [strB_extract, hx]; rfl) X
    have hk := fun X => rclockP_list (s.extract 10 19) t j k u l n v o q (by rw [strB_extract, hx]; rfl) X
    have hiff := saysR_mom a b c e x f g z h i t j k u l n v o q
    by_cases hy : Says momF (strB s)
    · have hp := fun X (hX : TabsM X) => parseAt_yes s hy X hX.1
      rw [hx] at hy hp
      obtain ⟨e0, e1, e2, e3, e4, e5⟩ := saysR_mnum hy
      rw [e0, e1, e2, e3, e4, e5] at hp
      have hc := hiff.1 hy
      rw [if_pos hc.1] at hr
      rw [if_pos hc.2] at hk
      exact ⟨_, _, _, _, _, _, 0, _, _, _, 0, _, _, _, 0, hp, .inl ⟨h19, hr, hk, .inl ⟨rfl, rfl, rfl, rfl, rfl, rfl, rfl, rfl, rfl⟩⟩⟩
    · have hp := fun X (hX : TabsM X) => parseAt_no s (by omega) hy X hX.1
      rw [hx] at hy
      by_cases hd : x = 45 ∧ z = 45 ∧ May (numR [a, b, c, e]) (numR [f, g]) (numR [h, i])
      · rw [if_pos hd] at hr
        rw [if_neg (fun hc => hy (hiff.2 ⟨hd, hc⟩))] at hk
        exact ⟨0, 0, 0, 0, 0, 0, 60, _, _, _, 0, 0, 0, 0, 60, hp, .inl ⟨h19, hr, hk, .inr ⟨rfl, ⟨rfl, rfl, rfl, rfl, rfl, rfl⟩, .inl ⟨rfl, rfl⟩⟩⟩⟩
      · rw [if_neg hd] at hr
        by_cases ht : t = 84 ∧ u = 58 ∧ v = 58 ∧ TimeIs (numR [j, k]) (numR [l, n]) (numR [o, q])
        · rw [if_pos ht] at hk
          exact ⟨0, 0, 0, 0, 0, 0, 60, 0, 0, 0, 60, _, _, _, 0, hp, .inl ⟨h19, hr, hk, .inr ⟨rfl, ⟨rfl, rfl, rfl, rfl, rfl, rfl⟩, .inr rfl⟩⟩⟩
        · rw [if_neg ht] at hk
          exact ⟨0, 0, 0, 0, 0, 0, 60, 0, 0, 0, 60, 0, 0, 0, 60, hp, .inl ⟨h19, hr, hk, .inr ⟨rfl, ⟨rfl, rfl, rfl, rfl, rfl, rfl⟩, .inr rfl⟩⟩⟩
  · have hy : ¬ Says momF (strB s) := fun hc => h19 (by have := hc.1.1; rw [strB_length] at this; exact this)
    exact ⟨0, 0, 0, 0, 0, 0, 60, 0, 0, 0, 0, 0, 0, 0, 0, fun X hX => parseAt_no s (by omega) hy X hX.1, .inr ⟨h19, rfl, rfl, rfl, rfl, rfl, rfl, rfl⟩⟩
theorem stN (y m wd n : Int) : ∃ n1 n2 n3 ne nd : Int, (∀ X, TabsM X → Calls Tryd.prog 33 #[.int .i64 y, .int .i64 m, .int .i64 wd, .int .i64 n] X fun e w' => e = .returned (.tuple #[dateV n1 n2 n3, .int .i64 ne]) ∧ Below X.heap.size X w') ∧ (∀ X, Calls Tryd.prog 34 #[.int .i64 y, .int .i64 m, .int .i64 wd, .int .i64 n] X fun e w' => e = .returned (.tuple #[.int .i64 nd, .int .i64 ne]) ∧ X = w') ∧ ((ne = 0 ∧ n1 = y ∧ n2 = m ∧ n3 = nd) ∨ (ne = 60 ∧ n1 = 0 ∧ n2 = 0 ∧ n3 = 0)) := by
  by_cases h : NthIs y m wd n
  · exact ⟨y, m, nthD y m wd n, 0, nthD y m wd n, fun X hX => nth_yes y m wd n h X hX.1, fun X => rnth_yes y m wd n h X, .inl ⟨rfl, rfl, rfl, rfl⟩⟩
  · exact ⟨0, 0, 0, 60, 0, fun X hX => nth_no y m wd n h X hX.1, fun X => rnth_no y m wd n h X, .inr ⟨rfl, rfl, rfl, rfl⟩⟩
set_option maxRecDepth 100000 in
set_option maxHeartbeats 4000000 in
theorem texts_long (y m d h mi x wd n : Int) (s : ByteArray) (hs : 100 < s.size) (w : World) :
    Calls Tryd.prog 5 #[momV y m d h mi x, .string s, .int .i64 wd, .int .i64 n] w fun e w' => e = .returned (.bool true) ∧ Below w.heap.size w w' := by
  have HB0 := Lib.hid ((Below.refl _ w).alloc (Nat.le_refl _) (.cells #[.int .i64 y, .int .i64 m, .int .i64 d, .int .i64 h, .int .i64 mi, .int .i64 x] 40))
  have hsz : decide (100 < (s.size : Int)) = true := decide_eq_true (by omega)
  go_enter Tryd.func5, Tryd.ntmps5
  go_wp2_with fail
  go_ret
  exact ⟨rfl, HB0.out⟩
theorem texts_any (y m d h mi x : Int) (s : ByteArray) (wd n : Int) (w : World) (hT : TabsM w) :
    Calls Tryd.prog 5 #[momV y m d h mi x, .string s, .int .i64 wd, .int .i64 n] w fun e w' => e = .returned (.bool true) ∧ Below w.heap.size w w' := by
  by_cases hs : 100 < s.size
  · exact texts_long y m d h mi x wd n s hs w
  · have hs : s.size ≤ 100 := by omega
    obtain ⟨B1, B2, B3, DS, CS, ea, eb, A1, A2, hB2, FD, FC, T1, T2, FA, FB⟩ := stT y m d h mi x
    obtain ⟨a1, a2, a3, pe, P1, P2⟩ := stP s hs
    obtain ⟨b1, b2, b3, b4, b5, b6, be, c1, c2, c3, ce, d1, d2, d3, de, Q1, FQ⟩ := stQ s hs
    obtain ⟨n1, n2, n3, ne, nd, N1, N2, FN⟩ := stN y m wd n
    exact texts_walk y m d h mi x wd n s hs w hT B1 B2 B3 DS CS ea eb A1 A2 hB2 FD FC T1 T2 FA FB a1 a2 a3 pe P1 P2 b1 b2 b3 b4 b5 b6 be Q1 c1 c2 c3 ce d1 d2 d3 de FQ n1 n2 n3 ne nd N1 N2 FN
#print axioms texts_any
end Go.Proofs.YtjlejpenegjbcaaDoor
