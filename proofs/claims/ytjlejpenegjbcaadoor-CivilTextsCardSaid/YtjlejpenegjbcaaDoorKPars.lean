/- Contracts of the document's functions over texts: Parse, ParseClock. -/
import Derived.Test.YtjlejpenegjbcaaDoorKTwo
set_option linter.unusedVariables false
set_option linter.unusedSimpArgs false
namespace Go.Proofs.YtjlejpenegjbcaaDoor
open Go.RowKit Go.Shelf
theorem results_tmp4 {fn : Func} {t u v x : Tmp} (h : fn.results = #[.tmp t, .tmp u, .tmp v, .tmp x]) (tmps : Array Value) (P : Program) (w : World) :
    (results fn tmps).run P w = .ok (.tuple #[tmps.getD t undef, tmps.getD u undef, tmps.getD v undef, tmps.getD x undef]) w := by
  simp [results, h]
theorem size_extract (s : ByteArray) (a b : Nat) (hb : b ≤ s.size) : (s.extract a b).size = b - a := by
  rw [ByteArray.size_extract, Nat.min_eq_left hb]
theorem strB_extract (s : ByteArray) (a b : Nat) : strB (s.extract a b) = ((strB s).take b).drop a := by
  unfold strB
  rw [ByteArray.data_extract, Array.toList_extract, List.extract_eq_take_drop, List.map_take, List.map_drop, List.drop_take]
set_option maxRecDepth 100000 in
set_option maxHeartbeats 2000000 in
theorem rparse_walk (s : ByteArray) (hs : s.size = 10) (x0 x1 n0 n1 n2 : Int) (h0 : bt s 4 = x0) (h1 : bt s 7 = x1) (N0 : ∀ X, Calls Tryd.prog 43 #[.string (s.extract 0 4)] X fun e w' => e = .returned (.int .i64 n0) ∧ X = w') (N1 : ∀ X, Calls Tryd.prog 43 #[.string (s.extract 5 7)] X fun e w' => e = .returned (.int .i64 n1) ∧ X = w') (N2 : ∀ X, Calls Tryd.prog 43 #[.string (s.extract 8 10)] X fun e w' => e = .returned (.int .i64 n2) ∧ X = w') (w : World) :
    Calls Tryd.prog 30 #[.string s] w fun e w' => e = .returned (if x0 = 45 ∧ x1 = 45 ∧ May n0 n1 n2 then .tuple #[.int .i64 n0, .int .i64 n1, .int .i64 n2, .int .i64 0] else .tuple #[.int .i64 0, .int .i64 0, .int .i64 0, .int .i64 60]) ∧ w = w' := by
  have hsz : (s.size : Int) = 10 := by omega
  have i0 : ∀ W : World, (Instr.index 9 (.string s) (.int .i64 4)).run Tryd.prog W = .ok (.int .u8 x0) W := fun W => by rw [← h0]; exact idx_str s 4 (by omega) W
  have q0 := bt_bd s 4
  rw [h0] at q0
  have i1 : ∀ W : World, (Instr.index 9 (.string s) (.int .i64 7)).run Tryd.prog W = .ok (.int .u8 x1) W := fun W => by rw [← h1]; exact idx_str s 7 (by omega) W
  have q1 := bt_bd s 7
  rw [h1] at q1
  clear h0 h1
  have M0 := Lib.hid N0
  have M1 := Lib.hid N1
  have M2 := Lib.hid N2
  clear N0 N1 N2
  have HC := Lib.hid (show ∀ X, _ from fun X => rmay_any n0 n1 n2 X)
  by_cases c0 : x0 = 45
  · have g0 : (x0 != 45) = false := by simp [c0]
    by_cases c1 : x1 = 45
    · have g1 : (x1 != 45) = false := by simp [c1]
      by_cases cm : May n0 n1 n2
      · have gm := Lib.hid (show decide (May n0 n1 n2) = true from decide_eq_true cm)
        rw [if_pos ⟨c0, c1, cm⟩]
        clear cm c0 c1
        go_enter Tryd.func30, Tryd.ntmps30
        go_wp2_with fail
        refine (M0.out _).mono ?_
        rintro e w' ⟨rfl, rfl⟩
        go_wp2_with fail
        refine (M1.out _).mono ?_
        rintro e w' ⟨rfl, rfl⟩
        go_wp2_with fail
        refine (M2.out _).mono ?_
        rintro e w' ⟨rfl, rfl⟩
        go_wp2_with fail
        refine (HC.out _).mono ?_
        rintro e w' ⟨rfl, rfl⟩
        rw [gm.out]
        go_wp2
        ((try simp only [Exit.inBlock, Exit.then]); refine bodyPost_ret (results_tmp4 rfl _ _ _) rfl ?_)
        exact ⟨rfl, rfl⟩
      · have gm := Lib.hid (show decide (May n0 n1 n2) = false from decide_eq_false cm)
        rw [if_neg (fun h => cm h.2.2)]
        clear cm c0 c1
        go_enter Tryd.func30, Tryd.ntmps30
        go_wp2_with fail
        refine (M0.out _).mono ?_
        rintro e w' ⟨rfl, rfl⟩
        go_wp2_with fail
        refine (M1.out _).mono ?_
        rintro e w' ⟨rfl, rfl⟩
        go_wp2_with fail
        refine (M2.out _).mono ?_
        rintro e w' ⟨rfl, rfl⟩
        go_wp2_with fail
        refine (HC.out _).mono ?_
        rintro e w' ⟨rfl, rfl⟩
        rw [gm.out]
        go_wp2
        ((try simp only [Exit.inBlock, Exit.then]); refine bodyPost_ret (results_tmp4 rfl _ _ _) rfl ?_)
        exact ⟨rfl, rfl⟩
    · have g1 : (x1 != 45) = true := by simp [c1]
      rw [if_neg (fun h => c1 h.2.1)]
      clear c1 c0
      go_enter Tryd.func30, Tryd.ntmps30
      go_wp2
      ((try simp only [Exit.inBlock, Exit.then]); refine bodyPost_ret (results_tmp4 rfl _ _ _) rfl ?_)
      exact ⟨rfl, rfl⟩
  · have g0 : (x0 != 45) = true := by simp [c0]
    rw [if_neg (fun h => c0 h.1)]
    clear c0
    go_enter Tryd.func30, Tryd.ntmps30
    go_wp2
    ((try simp only [Exit.inBlock, Exit.then]); refine bodyPost_ret (results_tmp4 rfl _ _ _) rfl ?_)
    exact ⟨rfl, rfl⟩
set_option maxRecDepth 100000 in
theorem rparse_len (s : ByteArray) (hs : s.size ≠ 10) (w : World) :
    Calls Tryd.prog 30 #[.string s] w fun e w' => e = .returned (.tuple #[.int .i64 0, .int .i64 0, .int .i64 0, .int .i64 60]) ∧ w = w' := by
  have g : ((s.size : Int) != 10) = true := by simp; omega
  go_enter Tryd.func30, Tryd.ntmps30
  go_wp2
  ((try simp only [Exit.inBlock, Exit.then]); refine bodyPost_ret (results_tmp4 rfl _ _ _) rfl ?_)
  exact ⟨rfl, rfl⟩
set_option maxRecDepth 100000 in
set_option maxHeartbeats 2000000 in
theorem rclockP_walk (s : ByteArray) (hs : s.size = 9) (x0 x1 x2 n0 n1 n2 : Int) (h0 : bt s 0 = x0) (h1 : bt s 3 = x1) (h2 : bt s 6 = x2) (N0 : ∀ X, Calls Tryd.prog 43 #[.string (s.extract 1 3)] X fun e w' => e = .returned (.int .i64 n0) ∧ X = w') (N1 : ∀ X, Calls Tryd.prog 43 #[.string (s.extract 4 6)] X fun e w' => e = .returned (.int .i64 n1) ∧ X = w') (N2 : ∀ X, Calls Tryd.prog 43 #[.string (s.extract 7 9)] X fun e w' => e = .returned (.int .i64 n2) ∧ X = w') (w : World) :
    Calls Tryd.prog 32 #[.string s] w fun e w' => e = .returned (if x0 = 84 ∧ x1 = 58 ∧ x2 = 58 ∧ TimeIs n0 n1 n2 then .tuple #[.int .i64 n0, .int .i64 n1, .int .i64 n2, .int .i64 0] else .tuple #[.int .i64 0, .int .i64 0, .int .i64 0, .int .i64 60]) ∧ w = w' := by
  have hsz : (s.size : Int) = 9 := by omega
  have i0 : ∀ W : World, (Instr.index 9 (.string s) (.int .i64 0)).run Tryd.prog W = .ok (.int .u8 x0) W := fun W => by rw [← h0]; exact idx_str s 0 (by omega) W
  have q0 := bt_bd s 0
  rw [h0] at q0
  have i1 : ∀ W : World, (Instr.index 9 (.string s) (.int .i64 3)).run Tryd.prog W = .ok (.int .u8 x1) W := fun W => by rw [← h1]; exact idx_str s 3 (by omega) W
  have q1 := bt_bd s 3
  rw [h1] at q1
  have i2 : ∀ W : World, (Instr.index 9 (.string s) (.int .i64 6)).run Tryd.prog W = .ok (.int .u8 x2) W := fun W => by rw [← h2]; exact idx_str s 6 (by omega) W
  have q2 := bt_bd s 6
  rw [h2] at q2
  clear h0 h1 h2
  have M0 := Lib.hid N0
  have M1 := Lib.hid N1
  have M2 := Lib.hid N2
  clear N0 N1 N2
  have HC := Lib.hid (show ∀ X, _ from fun X => rclock_any n0 n1 n2 X)
  by_cases c0 : x0 = 84
  · have g0 : (x0 != 84) = false := by simp [c0]
    by_cases c1 : x1 = 58
    · have g1 : (x1 != 58) = false := by simp [c1]
      by_cases c2 : x2 = 58
      · have g2 : (x2 != 58) = false := by simp [c2]
        by_cases cm : TimeIs n0 n1 n2
        · have gm := Lib.hid (show decide (TimeIs n0 n1 n2) = true from decide_eq_true cm)
          rw [if_pos ⟨c0, c1, c2, cm⟩]
          clear cm c0 c1 c2
          go_enter Tryd.func32, Tryd.ntmps32
          go_wp2_with fail
          refine (M0.out _).mono ?_
          rintro e w' ⟨rfl, rfl⟩
          go_wp2_with fail
          refine (M1.out _).mono ?_
          rintro e w' ⟨rfl, rfl⟩
          go_wp2_with fail
          refine (M2.out _).mono ?_
          rintro e w' ⟨rfl, rfl⟩
          go_wp2_with fail
          refine (HC.out _).mono ?_
          rintro e w' ⟨rfl, rfl⟩
          rw [gm.out]
          go_wp2
          ((try simp only [Exit.inBlock, Exit.then]); refine bodyPost_ret (results_tmp4 rfl _ _ _) rfl ?_)
          exact ⟨rfl, rfl⟩
        · have gm := Lib.hid (show decide (TimeIs n0 n1 n2) = false from decide_eq_false cm)
          rw [if_neg (fun h => cm h.2.2.2)]
          clear cm c0 c1 c2
          go_enter Tryd.func32, Tryd.ntmps32
          go_wp2_with fail
          refine (M0.out _).mono ?_
          rintro e w' ⟨rfl, rfl⟩
          go_wp2_with fail
          refine (M1.out _).mono ?_
          rintro e w' ⟨rfl, rfl⟩
          go_wp2_with fail
          refine (M2.out _).mono ?_
          rintro e w' ⟨rfl, rfl⟩
          go_wp2_with fail
          refine (HC.out _).mono ?_
          rintro e w' ⟨rfl, rfl⟩
          rw [gm.out]
          go_wp2
          ((try simp only [Exit.inBlock, Exit.then]); refine bodyPost_ret (results_tmp4 rfl _ _ _) rfl ?_)
          exact ⟨rfl, rfl⟩
      · have g2 : (x2 != 58) = true := by simp [c2]
        rw [if_neg (fun h => c2 h.2.2.1)]
        clear c2 c0 c1
        go_enter Tryd.func32, Tryd.ntmps32
        go_wp2
        ((try simp only [Exit.inBlock, Exit.then]); refine bodyPost_ret (results_tmp4 rfl _ _ _) rfl ?_)
        exact ⟨rfl, rfl⟩
    · have g1 : (x1 != 58) = true := by simp [c1]
      rw [if_neg (fun h => c1 h.2.1)]
      clear c1 c0
      go_enter Tryd.func32, Tryd.ntmps32
      go_wp2
      ((try simp only [Exit.inBlock, Exit.then]); refine bodyPost_ret (results_tmp4 rfl _ _ _) rfl ?_)
      exact ⟨rfl, rfl⟩
  · have g0 : (x0 != 84) = true := by simp [c0]
    rw [if_neg (fun h => c0 h.1)]
    clear c0
    go_enter Tryd.func32, Tryd.ntmps32
    go_wp2
    ((try simp only [Exit.inBlock, Exit.then]); refine bodyPost_ret (results_tmp4 rfl _ _ _) rfl ?_)
    exact ⟨rfl, rfl⟩
set_option maxRecDepth 100000 in
theorem rclockP_len (s : ByteArray) (hs : s.size ≠ 9) (w : World) :
    Calls Tryd.prog 32 #[.string s] w fun e w' => e = .returned (.tuple #[.int .i64 0, .int .i64 0, .int .i64 0, .int .i64 60]) ∧ w = w' := by
  have g : ((s.size : Int) != 9) = true := by simp; omega
  go_enter Tryd.func32, Tryd.ntmps32
  go_wp2
  ((try simp only [Exit.inBlock, Exit.then]); refine bodyPost_ret (results_tmp4 rfl _ _ _) rfl ?_)
  exact ⟨rfl, rfl⟩
theorem allD2 {a b : Int} : allD [a, b] ↔ digit a ∧ digit b := by
  unfold allD
  constructor
  · intro H; exact ⟨H 0 (by simp), H 1 (by simp)⟩
  · rintro ⟨h0, h1⟩ k hk
    have hk : k < 2 := hk
    obtain rfl | rfl : k = 0 ∨ k = 1 := by omega
    all_goals assumption
theorem allD4 {a b c e : Int} : allD [a, b, c, e] ↔ digit a ∧ digit b ∧ digit c ∧ digit e := by
  unfold allD
  constructor
  · intro H; exact ⟨H 0 (by simp), H 1 (by simp), H 2 (by simp), H 3 (by simp)⟩
  · rintro ⟨h0, h1, h2, h3⟩ k hk
    have hk : k < 4 := hk
    obtain rfl | rfl | rfl | rfl : k = 0 ∨ k = 1 ∨ k = 2 ∨ k = 3 := by omega
    all_goals assumption
theorem numR2 {a b : Int} (h0 : digit a) (h1 : digit b) : numR [a, b] = (a - 48) * 10 + (b - 48) := by
  unfold numR
  rw [if_pos (allD2.2 ⟨h0, h1⟩)]
  simp [dval]
theorem numR4 {a b c e : Int} (h0 : digit a) (h1 : digit b) (h2 : digit c) (h3 : digit e) : numR [a, b, c, e] = (a - 48) * 1000 + (b - 48) * 100 + (c - 48) * 10 + (e - 48) := by
  unfold numR
  rw [if_pos (allD4.2 ⟨h0, h1, h2, h3⟩)]
  simp [dval]
  omega
theorem numR_ge {xs : List Int} (h : 0 ≤ numR xs) : allD xs := by
  unfold numR at h
  split at h
  · assumption
  · omega
theorem saysR_date (a b c e x f g z h i : Int) : Says dateF [a, b, c, e, x, f, g, z, h, i] ↔ x = 45 ∧ z = 45 ∧ May (numR [a, b, c, e]) (numR [f, g]) (numR [h, i]) := by
  rw [says_date, fits_date]
  constructor
  · rintro ⟨⟨h0, h1, h2, h3, rfl, h5, h6, rfl, h8, h9⟩, hm⟩
    obtain ⟨e0, e1, e2⟩ := num_date a b c e f g h i
    rw [e0, e1, e2] at hm
    rw [numR4 h0 h1 h2 h3, numR2 h5 h6, numR2 h8 h9]
    exact ⟨rfl, rfl, hm⟩
  · rintro ⟨rfl, rfl, hm⟩
    have hm2 := hm
    obtain ⟨k1, k2, k3, k4, k5, k6⟩ := hm2
    obtain ⟨h0, h1, h2, h3⟩ := allD4.1 (numR_ge (xs := [a, b, c, e]) (by omega))
    obtain ⟨h5, h6⟩ := allD2.1 (numR_ge (xs := [f, g]) (by omega))
    obtain ⟨h8, h9⟩ := allD2.1 (numR_ge (xs := [h, i]) (by omega))
    obtain ⟨e0, e1, e2⟩ := num_date a b c e f g h i
    rw [e0, e1, e2, ← numR4 h0 h1 h2 h3, ← numR2 h5 h6, ← numR2 h8 h9]
    exact ⟨⟨h0, h1, h2, h3, rfl, h5, h6, rfl, h8, h9⟩, hm⟩
theorem saysR_num {a b c e x f g z h i : Int} (hs : Says dateF [a, b, c, e, x, f, g, z, h, i]) : num dateF [a, b, c, e, x, f, g, z, h, i] 10 0 = numR [a, b, c, e] ∧ num dateF [a, b, c, e, x, f, g, z, h, i] 10 1 = numR [f, g] ∧ num dateF [a, b, c, e, x, f, g, z, h, i] 10 2 = numR [h, i] := by
  rw [says_date, fits_date] at hs
  obtain ⟨⟨h0, h1, h2, h3, rfl, h5, h6, rfl, h8, h9⟩, _⟩ := hs
  obtain ⟨e0, e1, e2⟩ := num_date a b c e f g h i
  rw [e0, e1, e2, numR4 h0 h1 h2 h3, numR2 h5 h6, numR2 h8 h9]
  exact ⟨rfl, rfl, rfl⟩
theorem saysR_mom (a b c e x f g z h i t j k u l n v o q : Int) : Says momF [a, b, c, e, x, f, g, z, h, i, t, j, k, u, l, n, v, o, q] ↔ (x = 45 ∧ z = 45 ∧ May (numR [a, b, c, e]) (numR [f, g]) (numR [h, i])) ∧ t = 84 ∧ u = 58 ∧ v = 58 ∧ TimeIs (numR [j, k]) (numR [l, n]) (numR [o, q]) := by
  unfold Says
  rw [fits_mom, show momF.length = 19 from rfl]
  constructor
  · rintro ⟨⟨⟨h0, h1, h2, h3, rfl, h5, h6, rfl, h8, h9⟩, rfl, h11, h12, rfl, h14, h15, rfl, h17, h18⟩, hm⟩
    obtain ⟨e0, e1, e2, e3, e4, e5⟩ := num_mom a b c e f g h i j k l n o q
    rw [e0, e1, e2, e3, e4, e5] at hm
    rw [numR4 h0 h1 h2 h3, numR2 h5 h6, numR2 h8 h9, numR2 h11 h12, numR2 h14 h15, numR2 h17 h18]
    exact ⟨⟨rfl, rfl, hm.1⟩, rfl, rfl, rfl, hm.2⟩
  · rintro ⟨⟨rfl, rfl, hm⟩, rfl, rfl, rfl, ht⟩
    have hm2 := hm
    have ht2 := ht
    obtain ⟨k1, k2, k3, k4, k5, k6⟩ := hm2
    obtain ⟨⟨r1, _⟩, ⟨r2, _⟩, r3, _⟩ := ht2
    obtain ⟨h0, h1, h2, h3⟩ := allD4.1 (numR_ge (xs := [a, b, c, e]) (by omega))
    obtain ⟨h5, h6⟩ := allD2.1 (numR_ge (xs := [f, g]) (by omega))
    obtain ⟨h8, h9⟩ := allD2.1 (numR_ge (xs := [h, i]) (by omega))
    obtain ⟨h11, h12⟩ := allD2.1 (numR_ge r1)
    obtain ⟨h14, h15⟩ := allD2.1 (numR_ge r2)
    obtain ⟨h17, h18⟩ := allD2.1 (numR_ge r3)
    obtain ⟨e0, e1, e2, e3, e4, e5⟩ := num_mom a b c e f g h i j k l n o q
    rw [e0, e1, e2, e3, e4, e5, ← numR4 h0 h1 h2 h3, ← numR2 h5 h6, ← numR2 h8 h9, ← numR2 h11 h12, ← numR2 h14 h15, ← numR2 h17 h18]
    exact ⟨⟨⟨h0, h1, h2, h3, rfl, h5, h6, rfl, h8, h9⟩, rfl, h11, h12, rfl, h14, h15, rfl, h17, h18⟩, hm, ht⟩
theorem saysR_mnum {a b c e x f g z h i t j k u l n v o q : Int} (hs : Says momF [a, b, c, e, x, f, g, z, h, i, t, j, k, u, l, n, v, o, q]) : num momF [a, b, c, e, x, f, g, z, h, i, t, j, k, u, l, n, v, o, q] 19 0 = numR [a, b, c, e] ∧ num momF [a, b, c, e, x, f, g, z, h, i, t, j, k, u, l, n, v, o, q] 19 1 = numR [f, g] ∧ num momF [a, b, c, e, x, f, g, z, h, i, t, j, k, u, l, n, v, o, q] 19 2 = numR [h, i] ∧ num momF [a, b, c, e, x, f, g, z, h, i, t, j, k, u, l, n, v, o, q] 19 3 = numR [j, k] ∧ num momF [a, b, c, e, x, f, g, z, h, i, t, j, k, u, l, n, v, o, q] 19 4 = numR [l, n] ∧ num momF [a, b, c, e, x, f, g, z, h, i, t, j, k, u, l, n, v, o, q] 19 5 = numR [o, q] := by
  obtain ⟨hs, _⟩ := hs
  rw [fits_mom] at hs
  obtain ⟨⟨h0, h1, h2, h3, rfl, h5, h6, rfl, h8, h9⟩, rfl, h11, h12, rfl, h14, h15, rfl, h17, h18⟩ := hs
  obtain ⟨e0, e1, e2, e3, e4, e5⟩ := num_mom a b c e f g h i j k l n o q
  rw [e0, e1, e2, e3, e4, e5, numR4 h0 h1 h2 h3, numR2 h5 h6, numR2 h8 h9, numR2 h11 h12, numR2 h14 h15, numR2 h17 h18]
  exact ⟨rfl, rfl, rfl, rfl, rfl, rfl⟩
theorem size_of_list {s : ByteArray} {xs : List Int} (h : strB s = xs) : s.size = xs.length := by rw [← strB_length, h]
theorem rparse_list (s : ByteArray) (a b c e x f g z h i : Int) (hx : strB s = [a, b, c, e, x, f, g, z, h, i]) (w : World) :
    Calls Tryd.prog 30 #[.string s] w fun r w' => r = .returned (if x = 45 ∧ z = 45 ∧ May (numR [a, b, c, e]) (numR [f, g]) (numR [h, i]) then .tuple #[.int .i64 (numR [a, b, c, e]), .int .i64 (numR [f, g]), .int .i64 (numR [h, i]), .int .i64 0] else .tuple #[.int .i64 0, .int .i64 0, .int .i64 0, .int .i64 60]) ∧ w = w' := by
  have hs : s.size = 10 := size_of_list hx
  have n0 := fun X => number_any (s.extract 0 4) (by rw [size_extract s 0 4 (by omega)]; omega) X
  have n1 := fun X => number_any (s.extract 5 7) (by rw [size_extract s 5 7 (by omega)]; omega) X
  have n2 := fun X => number_any (s.extract 8 10) (by rw [size_extract s 8 10 (by omega)]; omega) X
  rw [strB_extract, hx] at n0 n1 n2
  exact rparse_walk s hs x z _ _ _ (by unfold bt; rw [hx]; rfl) (by unfold bt; rw [hx]; rfl) n0 n1 n2 w
theorem rclockP_list (s : ByteArray) (t j k u l n v o q : Int) (hx : strB s = [t, j, k, u, l, n, v, o, q]) (w : World) :
    Calls Tryd.prog 32 #[.string s] w fun r w' => r = .returned (if t = 84 ∧ u = 58 ∧ v = 58 ∧ TimeIs (numR [j, k]) (numR [l, n]) (numR [o, q]) then .tuple #[.int .i64 (numR [j, k]), .int .i64 (numR [l, n]), .int .i64 (numR [o, q]), .int .i64 0] else .tuple #[.int .i64 0, .int .i64 0, .int .i64 0, .int .i64 60]) ∧ w = w' := by
  have hs : s.size = 9 := size_of_list hx
  have n0 := fun X => number_any (s.extract 1 3) (by rw [size_extract s 1 3 (by omega)]; omega) X
  have n1 := fun X => number_any (s.extract 4 6) (by rw [size_extract s 4 6 (by omega)]; omega) X
  have n2 := fun X => number_any (s.extract 7 9) (by rw [size_extract s 7 9 (by omega)]; omega) X
  rw [strB_extract, hx] at n0 n1 n2
  exact rclockP_walk s hs t u v _ _ _ (by unfold bt; rw [hx]; rfl) (by unfold bt; rw [hx]; rfl) (by unfold bt; rw [hx]; rfl) n0 n1 n2 w
end Go.Proofs.YtjlejpenegjbcaaDoor
