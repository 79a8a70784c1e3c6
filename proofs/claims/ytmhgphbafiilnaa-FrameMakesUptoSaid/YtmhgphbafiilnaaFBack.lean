/- The walk of FrameBack. -/
import Derived.Test.YtmhgphbafiilnaaFSpoilt
import Derived.Test.YtmhgphbafiilnaaFOpen
set_option linter.unusedVariables false
set_option linter.unusedSimpArgs false
namespace Go.Proofs.Ytmhgphbafiilnaa
open Go.RowKit Go.Shelf
/-- What is under way in FrameBack: the bytes, their frames, and these made again. -/
theorem back_all (xa : Option Addr) (xc : Nat) (xl : List (List Int)) (rest xs : List Int) (hs : Scans xs xl rest) (W : World) (h : BssAt W.heap.size W xa xl) (hl : xs.length ≤ 9000) :
    Calls Try.prog 9 #[.slice xa xl.length xc] W fun e w' => ∃ ya yc, e = .returned (.tuple #[.slice ya (sizeN xl) yc, .int .i64 0]) ∧ Bys8 w'.heap.size w' (.slice ya (sizeN xl) yc) (xs.take (sizeN xl)) ∧ Below W.heap.size W w' := by
  have hln := scans_len hs
  have h1 := sizeN_len xl
  refine (all_any xa xc xl W h (by omega) (by omega)).mono ?_
  rintro e w' (⟨_, a, c, he, hO, hB⟩ | ⟨q, _⟩)
  · have ht : xs.take (sizeN xl) = (xl.map frameL).flatten := by
      conv => lhs; rw [hs.eq]
      exact List.take_left
    refine ⟨a, c, he, ?_, hB⟩
    rw [ht]
    exact hO.bys
  · exact absurd hs.recs q

set_option maxRecDepth 100000 in
set_option maxHeartbeats 4000000 in
theorem back_g1 (a0 : Option Addr) (n0 c0 : Nat) (ls : List (List Int)) (a1 : Option Addr) (n1 c1 : Nat) (xs : List Int) (w : World) (h0 : BssAt w.heap.size w a0 ls) (e0 : ls.length = n0) (hs0 : sizeN ls ≤ 10000000) (h1 : Bys8 w.heap.size w (.slice a1 n1 c1) xs) (e1 : xs.length = n1) (hc1 : n1 ≤ c1) (hq : 9000 < sizeN ls) :
    Calls Try.prog 5 #[.slice a0 n0 c0, .slice a1 n1 c1] w fun e w' => e = .returned (.bool true) ∧ Below w.heap.size w w' := by
  have hn0 : n0 ≤ 10000000 := by have := sizeN_len ls; omega
  have HA := Lib.hid (alive_any w)
  have hg := fun (W : World) (hB : Below w.heap.size w W) => great_any a0 n0 c0 ls W (h0.from hB (Nat.le_refl _)) e0.symm hn0 hs0
  rw [show ((greatE (sizeN ls) : Nat) : Int) = 1 by unfold greatE; rw [if_pos hq]; rfl] at hg
  have HG := Lib.hid hg
  clear h0 e0 hs0 h1 e1 hc1 hq hn0 hg
  go_enter Try.func5, Try.ntmps5
  go_wp2_with (first
    | (go_at_call 17; refine HA.out.mono ?_; rintro e w1 ⟨rfl, hB1⟩)
    | (go_at_call 8; refine (HG.out w1 hB1).mono ?_; rintro e wg ⟨rfl, rfl⟩)
    | fail)
  go_ret
  exact ⟨rfl, hB1⟩

set_option maxRecDepth 100000 in
set_option maxHeartbeats 4000000 in
theorem back_g2 (a0 : Option Addr) (n0 c0 : Nat) (ls : List (List Int)) (a1 : Option Addr) (n1 c1 : Nat) (xs : List Int) (w : World) (h0 : BssAt w.heap.size w a0 ls) (e0 : ls.length = n0) (hs0 : sizeN ls ≤ 10000000) (h1 : Bys8 w.heap.size w (.slice a1 n1 c1) xs) (e1 : xs.length = n1) (hc1 : n1 ≤ c1) (hq : ¬ 9000 < sizeN ls) (hq2 : 9000 < n1) :
    Calls Try.prog 5 #[.slice a0 n0 c0, .slice a1 n1 c1] w fun e w' => e = .returned (.bool true) ∧ Below w.heap.size w w' := by
  have hn0 : n0 ≤ 10000000 := by have := sizeN_len ls; omega
  have HA := Lib.hid (alive_any w)
  have hg := fun (W : World) (hB : Below w.heap.size w W) => great_any a0 n0 c0 ls W (h0.from hB (Nat.le_refl _)) e0.symm hn0 hs0
  rw [show ((greatE (sizeN ls) : Nat) : Int) = 0 by unfold greatE; rw [if_neg hq]; rfl] at hg
  have HG := Lib.hid hg
  have i1 : (9000 : Int) < (n1 : Int) := by omega
  clear h0 e0 hs0 h1 e1 hc1 hq hq2 hn0 hg
  go_enter Try.func5, Try.ntmps5
  go_wp2_with (first
    | (go_at_call 17; refine HA.out.mono ?_; rintro e w1 ⟨rfl, hB1⟩)
    | (go_at_call 8; refine (HG.out w1 hB1).mono ?_; rintro e wg ⟨rfl, rfl⟩)
    | fail)
  go_ret
  exact ⟨rfl, hB1⟩

theorem slice_to8 (W : World) (a : Option Addr) (len c p : Nat) (hp : p ≤ c) : (Instr.slice 23 (.slice a len c) none (some (.int .i64 (p : Int))) none).run Try.prog W = .ok (.slice a p c) W := by
  rw [run_slice_h W 23 a len c (by rw [elem8]; exact Try.underlying23) .i64 p (by omega) (by omega), elem8, size8]
  simp [Result.andThen, sliced]
  intro _
  cases a <;> simp [Addr.add]
set_option maxRecDepth 100000 in
set_option maxHeartbeats 4000000 in
theorem back_good (a0 : Option Addr) (n0 c0 : Nat) (ls : List (List Int)) (a1 : Option Addr) (n1 c1 : Nat) (xs : List Int) (w : World) (h0 : BssAt w.heap.size w a0 ls) (e0 : ls.length = n0) (hs0 : sizeN ls ≤ 10000000) (h1 : Bys8 w.heap.size w (.slice a1 n1 c1) xs) (e1 : xs.length = n1) (hc1 : n1 ≤ c1) (hq : ¬ 9000 < sizeN ls) (hq2 : ¬ 9000 < n1) (hR : ∀ L ∈ ls, RecL L) :
    Calls Try.prog 5 #[.slice a0 n0 c0, .slice a1 n1 c1] w fun e w' => e = .returned (.bool true) ∧ Below w.heap.size w w' := by
  have hn0 : n0 ≤ 10000000 := by have := sizeN_len ls; omega
  have HA := Lib.hid (alive_any w)
  have hg := fun (W : World) (hB : Below w.heap.size w W) => great_any a0 n0 c0 ls W (h0.from hB (Nat.le_refl _)) e0.symm hn0 hs0
  rw [show ((greatE (sizeN ls) : Nat) : Int) = 0 by unfold greatE; rw [if_neg hq]; rfl] at hg
  have HG := Lib.hid hg
  have i1 : ¬ (9000 : Int) < (n1 : Int) := by omega
  obtain ⟨xl, rest, hsc⟩ := scans_any xs.length xs (Nat.le_refl _) h1.1
  have hln := scans_len hsc
  obtain ⟨N, hN⟩ : ∃ N, sizeN xl = N := ⟨_, rfl⟩
  obtain ⟨xn, hxn⟩ : ∃ xn, xl.length = xn := ⟨_, rfl⟩
  have hNn : N ≤ n1 := by omega
  have i2 : (N : Int) ≤ (n1 : Int) := by omega
  have i3 : (N : Int) ≤ (c1 : Int) := by omega
  have i4 : (0 : Int) ≤ (N : Int) := by omega
  have hscan := fun (W : World) (hB : Below w.heap.size w W) => scan_any a1 n1 c1 xs xl rest W ((h1.below hB).mono hB.size) hc1 hsc (by omega)
  unfold ScanE at hscan
  rw [hN, hxn] at hscan
  have HSC := Lib.hid hscan
  have hback := fun (xa : Option Addr) (xc : Nat) (W : World) (h : BssAt W.heap.size W xa xl) => back_all xa xc xl rest xs hsc W h (by omega)
  rw [hN, hxn] at hback
  have HBK := Lib.hid hback
  have hall := fun (W : World) (hB : Below w.heap.size w W) => all_any a0 c0 ls W (h0.from hB (Nat.le_refl _)) hs0 (by omega)
  rw [e0] at hall
  have hT := h1.take N (by omega)
  have slT := fun (W : World) => slice_to8 W a1 n1 c1 N (by omega)
  have HALL := Lib.hid (fun (W : World) (hB : Below w.heap.size w W) => show Calls Try.prog 9 #[.slice a0 n0 c0] W (fun e w' => ∃ a c, e = .returned (.tuple #[.slice a (sizeN ls) c, .int .i64 0]) ∧ sizeN ls ≤ c ∧ Bys8 w'.heap.size w' (.slice a (sizeN ls) c) (ls.map frameL).flatten ∧ Below W.heap.size W w') from (hall W hB).mono (by
    rintro e w' (⟨_, a, c, he, hO, hB⟩ | ⟨q, _⟩)
    · exact ⟨a, c, he, hO.cap, hO.bys, hB⟩
    · exact absurd hR q))
  have HEX := Lib.hid (fun (W : World) (a : Option Addr) (c : Nat) (hc : sizeN ls ≤ c) (hb : Bys8 W.heap.size W (.slice a (sizeN ls) c) (ls.map frameL).flatten) => show Calls Try.prog 16 #[.slice a (sizeN ls) c] W (fun e w' => ∃ a c, e = .returned (.tuple #[.slice a n0 c, .int .i64 0]) ∧ BssAt w'.heap.size w' a ls ∧ Below W.heap.size W w') from (exact_any a _ c _ ls [] W hb hc (scans_all hR) (by show sizeN ls ≤ _; omega)).mono (by
    rintro e w' (⟨_, a, c, he, _, hb, hB⟩ | ⟨q, _⟩)
    · rw [e0] at he
      exact ⟨a, c, he, hb, hB⟩
    · exact absurd rfl q))
  have HX := Lib.hid (And.intro h0 (And.intro e0 (And.intro hn0 (And.intro hT hNn))))
  obtain ⟨F, hF⟩ : ∃ F, sizeN ls = F := ⟨_, rfl⟩
  rw [hF] at HALL HEX
  clear h0 e0 hs0 h1 e1 hc1 hq hq2 hn0 hg hln hN hxn hscan hback hall hT hR hF hNn
  go_enter Try.func5, Try.ntmps5
  go_wp2_with (first
    | (go_at_call 17; refine HA.out.mono ?_; rintro e w1 ⟨rfl, hB1⟩)
    | (go_at_call 8; refine (HG.out w1 hB1).mono ?_; rintro e wg ⟨rfl, rfl⟩)
    | (go_at_call 9; refine (HALL.out w1 hB1).mono ?_; rintro e w2 ⟨fa, fc, rfl, hfc, hfb, hB2⟩
       have hB02 := hB1.trans (hB2.mono hB1.size)
       have HE2 := Lib.hid (HEX.out w2 fa fc hfc hfb)
       have HB2 := Lib.hid hB02
       clear hfc hfb hB2 hB02 HALL HEX)
    | (go_at_call 16; refine HE2.out.mono ?_; rintro e w3 ⟨ma, mc, rfl, hmb, hB3⟩
       have HB3 := Lib.hid (HB2.out.trans (hB3.mono HB2.out.size))
       have HM3 := Lib.hid hmb
       clear hmb hB3 HE2)
    | (go_at_call 13; refine (HSC.out w3 HB3.out).mono ?_; rintro e w4 ⟨xa, xc, rfl, _, hxb, hB4⟩
       have HM4 := Lib.hid (HM3.out.grow hB4)
       have HB4 := Lib.hid (HB3.out.trans (hB4.mono HB3.out.size))
       have HK4 := Lib.hid (HBK.out xa xc w4 hxb)
       clear hxb hB4)
    | (go_at_call 9; refine HK4.out.mono ?_; rintro e w5 ⟨ya, yc, rfl, hyb, hB5⟩
       have HM5 := Lib.hid (HM4.out.grow hB5)
       have HB5 := Lib.hid (HB4.out.trans (hB5.mono HB4.out.size))
       have HY5 := Lib.hid hyb
       clear hyb hB5)
    | fail)
  obtain ⟨s, hs⟩ : ∃ s, strOfNums (xs.take N) = s := ⟨_, rfl⟩
  have q1 : (fun Z : World => Below w5.heap.size w5 Z) w5.drew := below_drewN (Below.refl _ _) 1
  have HCY := Lib.hid (show ∀ Z, Below w5.heap.size w5 Z → (convert 23 9 (.slice ya N yc)).run Try.prog Z = .ok (.string s) Z from fun Z hZ => by rw [← hs]; exact conv8 (HY5.out.below hZ))
  have HCB := Lib.hid (show ∀ Z, Below w5.heap.size w5 Z → (convert 23 9 (.slice a1 N c1)).run Try.prog Z = .ok (.string s) Z from fun Z hZ => by rw [← hs]; exact conv8 (HX.out.2.2.2.1.below (HB5.out.trans (hZ.mono HB5.out.size))))
  have HSM := Lib.hid (show Calls Try.prog 18 #[.slice ma n0 mc, .slice a0 n0 c0] w5.drew (fun e w' => e = .returned (.bool true) ∧ Below w5.heap.size w5.drew w') from by
    have h := same_any ma n0 mc ls a0 n0 c0 ls w5.drew (HM5.out.grow (below_drewN (Below.refl _ _) 1)) (HX.out.1.from (below_drewN HB5.out 1) (Nat.le_refl _)) HX.out.2.1.symm HX.out.2.1.symm HX.out.2.2.1 HX.out.2.2.1
    rw [decide_eq_true rfl] at h
    exact h)
  clear hs
  refine regionL (fun Z : World => Below w5.heap.size w5 Z) 33 (by kernel_rfl) ?_
  refine takeL (i := 0) (oi := { dst := some 48, op := Go.Op.move (Go.Operand.tmp 5), type := 4, pos := "outright.go:49", after := #[], guard := none }) (v := .bool true) [33, 32, 31, 30, 29, 28, 27, 26, 25, 24, 23, 22, 21, 20, 19, 18, 17, 16, 15, 14, 13, 12, 11, 10, 9, 8, 7, 6, 5, 4, 3, 2, 1] rfl (by kernel_rfl) (by kernel_rfl) (by kernel_rfl) (by kernel_rfl) (fun _ _ _ h => calm_panic h) rfl ?_ q1 ?_
  · intro Z hZ; go_simp
  simp only [Act.put, List.setIfInBounds_toArray, List.set_cons_zero, List.set_cons_succ]
  refine takeL (i := 1) (oi := { dst := some 49, op := Go.Op.move (Go.Operand.tmp 48), type := 4, pos := "outright.go:49", after := #[{ on := 0, ground := Go.Ground.data }], guard := none }) (v := .bool true) [33, 32, 31, 30, 29, 28, 27, 26, 25, 24, 23, 22, 21, 20, 19, 18, 17, 16, 15, 14, 13, 12, 11, 10, 9, 8, 7, 6, 5, 4, 3, 2] rfl (by kernel_rfl) (by kernel_rfl) (by kernel_rfl) (by kernel_rfl) (fun _ _ _ h => calm_panic h) rfl ?_ q1 ?_
  · intro Z hZ; go_simp
  simp only [Act.put, List.setIfInBounds_toArray, List.set_cons_zero, List.set_cons_succ]
  refine takeY (i := 2) (oi := { dst := some 50, op := Go.Op.move (Go.Operand.tmp 7), type := 25, pos := "outright.go:49", after := #[{ on := 1, ground := Go.Ground.guard }], guard := some (1, true) }) (v := .int .i64 0) [33, 32, 31, 30, 29, 28, 27, 26, 25, 24, 23, 22, 21, 20, 19, 18, 17, 16, 15, 14, 13, 12, 11, 10, 9, 8, 7, 6, 5, 4, 3] rfl (by kernel_rfl) (by kernel_rfl) (by kernel_rfl) (by kernel_rfl) (fun _ _ _ h => calm_panic h) (.inl ⟨rfl, ?_⟩) q1 ?_
  · intro Z hZ; go_simp
  simp only [Act.put, List.setIfInBounds_toArray, List.set_cons_zero, List.set_cons_succ]
  refine takeY (i := 3) (oi := { dst := some 51, op := Go.Op.binOp Go.BinOp.neq 25 (Go.Operand.tmp 50) (Go.Operand.const (Go.Value.int Go.IntKind.i64 0)) 25, type := 4, pos := "outright.go:49", after := #[{ on := 2, ground := Go.Ground.data }, { on := 1, ground := Go.Ground.guard }], guard := some (1, true) }) (v := .bool false) [33, 32, 31, 30, 29, 28, 27, 26, 25, 24, 23, 22, 21, 20, 19, 18, 17, 16, 15, 14, 13, 12, 11, 10, 9, 8, 7, 6, 5, 4] rfl (by kernel_rfl) (by kernel_rfl) (by kernel_rfl) (by kernel_rfl) (fun _ _ _ h => calm_panic h) (.inl ⟨rfl, ?_⟩) q1 ?_
  · intro Z hZ; go_simp
  simp only [Act.put, List.setIfInBounds_toArray, List.set_cons_zero, List.set_cons_succ]
  refine takeY (i := 4) (oi := { dst := some 52, op := Go.Op.move (Go.Operand.tmp 51), type := 4, pos := "outright.go:49", after := #[{ on := 3, ground := Go.Ground.data }, { on := 1, ground := Go.Ground.chain }, { on := 1, ground := Go.Ground.guard }], guard := some (1, true) }) (v := .bool false) [33, 32, 31, 30, 29, 28, 27, 26, 25, 24, 23, 22, 21, 20, 19, 18, 17, 16, 15, 14, 13, 12, 11, 10, 9, 8, 7, 6, 5] rfl (by kernel_rfl) (by kernel_rfl) (by kernel_rfl) (by kernel_rfl) (fun _ _ _ h => calm_panic h) (.inl ⟨rfl, ?_⟩) q1 ?_
  · intro Z hZ; go_simp
  simp only [Act.put, List.setIfInBounds_toArray, List.set_cons_zero, List.set_cons_succ]
  refine takeY (i := 5) (oi := { dst := some 53, op := Go.Op.move (Go.Operand.tmp 9), type := 25, pos := "outright.go:49", after := #[{ on := 4, ground := Go.Ground.guard }], guard := some (4, false) }) (v := .int .i64 0) [33, 32, 31, 30, 29, 28, 27, 26, 25, 24, 23, 22, 21, 20, 19, 18, 17, 16, 15, 14, 13, 12, 11, 10, 9, 8, 7, 6] rfl (by kernel_rfl) (by kernel_rfl) (by kernel_rfl) (by kernel_rfl) (fun _ _ _ h => calm_panic h) (.inl ⟨rfl, ?_⟩) q1 ?_
  · intro Z hZ; go_simp
  simp only [Act.put, List.setIfInBounds_toArray, List.set_cons_zero, List.set_cons_succ]
  refine takeY (i := 6) (oi := { dst := some 54, op := Go.Op.binOp Go.BinOp.eql 25 (Go.Operand.tmp 53) (Go.Operand.const (Go.Value.int Go.IntKind.i64 0)) 25, type := 4, pos := "outright.go:49", after := #[{ on := 5, ground := Go.Ground.data }, { on := 4, ground := Go.Ground.guard }], guard := some (4, false) }) (v := .bool true) [33, 32, 31, 30, 29, 28, 27, 26, 25, 24, 23, 22, 21, 20, 19, 18, 17, 16, 15, 14, 13, 12, 11, 10, 9, 8, 7] rfl (by kernel_rfl) (by kernel_rfl) (by kernel_rfl) (by kernel_rfl) (fun _ _ _ h => calm_panic h) (.inl ⟨rfl, ?_⟩) q1 ?_
  · intro Z hZ; go_simp
  simp only [Act.put, List.setIfInBounds_toArray, List.set_cons_zero, List.set_cons_succ]
  refine takeY (i := 7) (oi := { dst := some 55, op := Go.Op.move (Go.Operand.tmp 54), type := 4, pos := "outright.go:49", after := #[{ on := 6, ground := Go.Ground.data }, { on := 4, ground := Go.Ground.chain }, { on := 4, ground := Go.Ground.guard }], guard := some (4, false) }) (v := .bool true) [33, 32, 31, 30, 29, 28, 27, 26, 25, 24, 23, 22, 21, 20, 19, 18, 17, 16, 15, 14, 13, 12, 11, 10, 9, 8] rfl (by kernel_rfl) (by kernel_rfl) (by kernel_rfl) (by kernel_rfl) (fun _ _ _ h => calm_panic h) (.inl ⟨rfl, ?_⟩) q1 ?_
  · intro Z hZ; go_simp
  simp only [Act.put, List.setIfInBounds_toArray, List.set_cons_zero, List.set_cons_succ]
  refine takeY (i := 8) (oi := { dst := some 56, op := Go.Op.move (Go.Operand.tmp 8), type := 22, pos := "outright.go:49", after := #[{ on := 7, ground := Go.Ground.guard }], guard := some (7, true) }) (v := .slice ma n0 mc) [33, 32, 31, 30, 29, 28, 27, 26, 25, 24, 23, 22, 21, 20, 19, 18, 17, 16, 15, 14, 13, 12, 11, 10] rfl (by kernel_rfl) (by kernel_rfl) (by kernel_rfl) (by kernel_rfl) (fun _ _ _ h => calm_panic h) (.inl ⟨rfl, ?_⟩) q1 ?_
  · intro Z hZ; go_simp
  simp only [Act.put, List.setIfInBounds_toArray, List.set_cons_zero, List.set_cons_succ]
  refine takeY (i := 9) (oi := { dst := some 57, op := Go.Op.move (Go.Operand.tmp 0), type := 22, pos := "outright.go:49", after := #[{ on := 7, ground := Go.Ground.guard }], guard := some (7, true) }) (v := .slice a0 n0 c0) [33, 32, 31, 30, 29, 28, 27, 26, 25, 24, 23, 22, 21, 20, 19, 18, 17, 16, 15, 14, 13, 12, 11, 10] rfl (by kernel_rfl) (by kernel_rfl) (by kernel_rfl) (by kernel_rfl) (fun _ _ _ h => calm_panic h) (.inl ⟨rfl, ?_⟩) q1 ?_
  · intro Z hZ; go_simp
  simp only [Act.put, List.setIfInBounds_toArray, List.set_cons_zero, List.set_cons_succ]
  refine oneW (i := 10) (o := { dst := some 58, op := Go.Op.call { callee := Go.Callee.value (Go.Operand.func 18), args := #[Go.Operand.tmp 56, Go.Operand.tmp 57], argTypes := #[22, 22] }, type := 4, pos := "outright.go:49", after := #[{ on := 8, ground := Go.Ground.data }, { on := 9, ground := Go.Ground.data }, { on := 7, ground := Go.Ground.chain }, { on := 7, ground := Go.Ground.guard }], guard := some (7, true) }) rfl (by kernel_rfl) rfl ?_
  refine wp_by_call (f := 18) (args := #[.slice ma n0 mc, .slice a0 n0 c0]) (by go_simp) (HSM.out.mono ?_)
  rintro e Z0 ⟨rfl, hBS⟩
  have hBZ : Below w5.heap.size w5 Z0 := (below_drewN (Below.refl _ _) 1).trans hBS
  refine ⟨_, rfl, (fun _ => hBZ), ?_⟩
  simp only [Act.put, List.setIfInBounds_toArray, List.set_cons_zero, List.set_cons_succ]
  refine takeY (i := 11) (oi := { dst := some 59, op := Go.Op.pick (Go.Operand.tmp 55) (Go.Operand.tmp 58) (Go.Operand.const (Go.Value.bool false)), type := 4, pos := "outright.go:49", after := #[{ on := 7, ground := Go.Ground.data }, { on := 10, ground := Go.Ground.data }, { on := 4, ground := Go.Ground.guard }], guard := some (4, false) }) (v := .bool true) [33, 32, 31, 30, 29, 28, 27, 26, 25, 24, 23, 22, 21, 20, 19, 18, 17, 16, 15, 14, 13, 12] rfl (by kernel_rfl) (by kernel_rfl) (by kernel_rfl) (by kernel_rfl) (fun _ _ _ h => calm_panic h) (.inl ⟨rfl, ?_⟩) hBZ ?_
  · intro Z hZ; go_simp
  simp only [Act.put, List.setIfInBounds_toArray, List.set_cons_zero, List.set_cons_succ]
  refine takeY (i := 12) (oi := { dst := some 60, op := Go.Op.pick (Go.Operand.tmp 52) (Go.Operand.const (Go.Value.bool true)) (Go.Operand.tmp 59), type := 4, pos := "outright.go:49", after := #[{ on := 4, ground := Go.Ground.data }, { on := 11, ground := Go.Ground.data }, { on := 1, ground := Go.Ground.guard }], guard := some (1, true) }) (v := .bool true) [33, 32, 31, 30, 29, 28, 27, 26, 25, 24, 23, 22, 21, 20, 19, 18, 17, 16, 15, 14, 13] rfl (by kernel_rfl) (by kernel_rfl) (by kernel_rfl) (by kernel_rfl) (fun _ _ _ h => calm_panic h) (.inl ⟨rfl, ?_⟩) hBZ ?_
  · intro Z hZ; go_simp
  simp only [Act.put, List.setIfInBounds_toArray, List.set_cons_zero, List.set_cons_succ]
  refine takeL (i := 13) (oi := { dst := some 61, op := Go.Op.pick (Go.Operand.tmp 49) (Go.Operand.tmp 60) (Go.Operand.const (Go.Value.bool false)), type := 4, pos := "outright.go:49", after := #[{ on := 1, ground := Go.Ground.data }, { on := 12, ground := Go.Ground.data }], guard := none }) (v := .bool true) [33, 32, 31, 30, 29, 28, 27, 26, 25, 24, 23, 22, 21, 20, 19, 18, 17, 16, 15, 14] rfl (by kernel_rfl) (by kernel_rfl) (by kernel_rfl) (by kernel_rfl) (fun _ _ _ h => calm_panic h) rfl ?_ hBZ ?_
  · intro Z hZ; go_simp
  simp only [Act.put, List.setIfInBounds_toArray, List.set_cons_zero, List.set_cons_succ]
  refine takeL (i := 14) (oi := { dst := some 62, op := Go.Op.move (Go.Operand.tmp 61), type := 4, pos := "outright.go:49", after := #[{ on := 13, ground := Go.Ground.data }, { on := 10, ground := Go.Ground.chain }], guard := none }) (v := .bool true) [33, 32, 31, 30, 29, 28, 27, 26, 25, 24, 23, 22, 21, 20, 19, 18, 17, 16, 15] rfl (by kernel_rfl) (by kernel_rfl) (by kernel_rfl) (by kernel_rfl) (fun _ _ _ h => calm_panic h) rfl ?_ hBZ ?_
  · intro Z hZ; go_simp
  simp only [Act.put, List.setIfInBounds_toArray, List.set_cons_zero, List.set_cons_succ]
  refine takeY (i := 15) (oi := { dst := some 63, op := Go.Op.move (Go.Operand.tmp 13), type := 25, pos := "outright.go:49", after := #[{ on := 14, ground := Go.Ground.guard }], guard := some (14, true) }) (v := .int .i64 0) [33, 32, 31, 30, 29, 28, 27, 26, 25, 24, 23, 22, 21, 20, 19, 18, 17, 16] rfl (by kernel_rfl) (by kernel_rfl) (by kernel_rfl) (by kernel_rfl) (fun _ _ _ h => calm_panic h) (.inl ⟨rfl, ?_⟩) hBZ ?_
  · intro Z hZ; go_simp
  simp only [Act.put, List.setIfInBounds_toArray, List.set_cons_zero, List.set_cons_succ]
  refine takeY (i := 16) (oi := { dst := some 64, op := Go.Op.binOp Go.BinOp.eql 25 (Go.Operand.tmp 63) (Go.Operand.const (Go.Value.int Go.IntKind.i64 0)) 25, type := 4, pos := "outright.go:49", after := #[{ on := 15, ground := Go.Ground.data }, { on := 14, ground := Go.Ground.guard }], guard := some (14, true) }) (v := .bool true) [33, 32, 31, 30, 29, 28, 27, 26, 25, 24, 23, 22, 21, 20, 19, 18, 17] rfl (by kernel_rfl) (by kernel_rfl) (by kernel_rfl) (by kernel_rfl) (fun _ _ _ h => calm_panic h) (.inl ⟨rfl, ?_⟩) hBZ ?_
  · intro Z hZ; go_simp
  simp only [Act.put, List.setIfInBounds_toArray, List.set_cons_zero, List.set_cons_succ]
  refine takeL (i := 17) (oi := { dst := some 65, op := Go.Op.pick (Go.Operand.tmp 62) (Go.Operand.tmp 64) (Go.Operand.const (Go.Value.bool false)), type := 4, pos := "outright.go:49", after := #[{ on := 14, ground := Go.Ground.data }, { on := 16, ground := Go.Ground.data }], guard := none }) (v := .bool true) [33, 32, 31, 30, 29, 28, 27, 26, 25, 24, 23, 22, 21, 20, 19, 18] rfl (by kernel_rfl) (by kernel_rfl) (by kernel_rfl) (by kernel_rfl) (fun _ _ _ h => calm_panic h) rfl ?_ hBZ ?_
  · intro Z hZ; go_simp
  simp only [Act.put, List.setIfInBounds_toArray, List.set_cons_zero, List.set_cons_succ]
  refine takeL (i := 18) (oi := { dst := some 66, op := Go.Op.move (Go.Operand.tmp 65), type := 4, pos := "outright.go:49", after := #[{ on := 17, ground := Go.Ground.data }, { on := 14, ground := Go.Ground.chain }], guard := none }) (v := .bool true) [33, 32, 31, 30, 29, 28, 27, 26, 25, 24, 23, 22, 21, 20, 19] rfl (by kernel_rfl) (by kernel_rfl) (by kernel_rfl) (by kernel_rfl) (fun _ _ _ h => calm_panic h) rfl ?_ hBZ ?_
  · intro Z hZ; go_simp
  simp only [Act.put, List.setIfInBounds_toArray, List.set_cons_zero, List.set_cons_succ]
  refine takeY (i := 19) (oi := { dst := some 67, op := Go.Op.move (Go.Operand.tmp 11), type := 3, pos := "outright.go:49", after := #[{ on := 18, ground := Go.Ground.guard }], guard := some (18, true) }) (v := .int .i64 (N : Nat)) [33, 32, 31, 30, 29, 28, 27, 26, 25, 24, 23, 22] rfl (by kernel_rfl) (by kernel_rfl) (by kernel_rfl) (by kernel_rfl) (fun _ _ _ h => calm_panic h) (.inl ⟨rfl, ?_⟩) hBZ ?_
  · intro Z hZ; go_simp
  simp only [Act.put, List.setIfInBounds_toArray, List.set_cons_zero, List.set_cons_succ]
  refine takeY (i := 20) (oi := { dst := some 68, op := Go.Op.move (Go.Operand.tmp 1), type := 23, pos := "outright.go:49", after := #[{ on := 18, ground := Go.Ground.guard }], guard := some (18, true) }) (v := .slice a1 n1 c1) [33, 32, 31, 30, 29, 28, 27, 26, 25, 24, 23, 22, 21] rfl (by kernel_rfl) (by kernel_rfl) (by kernel_rfl) (by kernel_rfl) (fun _ _ _ h => calm_panic h) (.inl ⟨rfl, ?_⟩) hBZ ?_
  · intro Z hZ; go_simp
  simp only [Act.put, List.setIfInBounds_toArray, List.set_cons_zero, List.set_cons_succ]
  refine takeY (i := 21) (oi := { dst := some 69, op := Go.Op.call { callee := Go.Callee.builtin Go.Builtin.len, args := #[Go.Operand.tmp 68], argTypes := #[23] }, type := 3, pos := "outright.go:49", after := #[{ on := 20, ground := Go.Ground.data }, { on := 18, ground := Go.Ground.guard }], guard := some (18, true) }) (v := .int .i64 (n1 : Nat)) [33, 32, 31, 30, 29, 28, 27, 26, 25, 24, 23, 22] rfl (by kernel_rfl) (by kernel_rfl) (by kernel_rfl) (by kernel_rfl) (fun _ _ _ h => calm_panic h) (.inl ⟨rfl, ?_⟩) hBZ ?_
  · intro Z hZ; go_simp
  simp only [Act.put, List.setIfInBounds_toArray, List.set_cons_zero, List.set_cons_succ]
  refine takeY (i := 22) (oi := { dst := some 70, op := Go.Op.binOp Go.BinOp.leq 3 (Go.Operand.tmp 67) (Go.Operand.tmp 69) 3, type := 4, pos := "outright.go:49", after := #[{ on := 19, ground := Go.Ground.data }, { on := 21, ground := Go.Ground.data }, { on := 18, ground := Go.Ground.guard }], guard := some (18, true) }) (v := .bool true) [33, 32, 31, 30, 29, 28, 27, 26, 25, 24, 23] rfl (by kernel_rfl) (by kernel_rfl) (by kernel_rfl) (by kernel_rfl) (fun _ _ _ h => calm_panic h) (.inl ⟨rfl, ?_⟩) hBZ ?_
  · intro Z hZ; go_simp
  simp only [Act.put, List.setIfInBounds_toArray, List.set_cons_zero, List.set_cons_succ]
  refine takeL (i := 23) (oi := { dst := some 71, op := Go.Op.pick (Go.Operand.tmp 66) (Go.Operand.tmp 70) (Go.Operand.const (Go.Value.bool false)), type := 4, pos := "outright.go:49", after := #[{ on := 18, ground := Go.Ground.data }, { on := 22, ground := Go.Ground.data }], guard := none }) (v := .bool true) [33, 32, 31, 30, 29, 28, 27, 26, 25, 24] rfl (by kernel_rfl) (by kernel_rfl) (by kernel_rfl) (by kernel_rfl) (fun _ _ _ h => calm_panic h) rfl ?_ hBZ ?_
  · intro Z hZ; go_simp
  simp only [Act.put, List.setIfInBounds_toArray, List.set_cons_zero, List.set_cons_succ]
  refine takeL (i := 24) (oi := { dst := some 72, op := Go.Op.move (Go.Operand.tmp 71), type := 4, pos := "outright.go:49", after := #[{ on := 23, ground := Go.Ground.data }, { on := 18, ground := Go.Ground.chain }], guard := none }) (v := .bool true) [33, 32, 31, 30, 29, 28, 27, 26, 25] rfl (by kernel_rfl) (by kernel_rfl) (by kernel_rfl) (by kernel_rfl) (fun _ _ _ h => calm_panic h) rfl ?_ hBZ ?_
  · intro Z hZ; go_simp
  simp only [Act.put, List.setIfInBounds_toArray, List.set_cons_zero, List.set_cons_succ]
  refine takeY (i := 25) (oi := { dst := some 73, op := Go.Op.move (Go.Operand.tmp 12), type := 23, pos := "outright.go:49", after := #[{ on := 24, ground := Go.Ground.guard }], guard := some (24, true) }) (v := .slice ya N yc) [33, 32, 31, 26] rfl (by kernel_rfl) (by kernel_rfl) (by kernel_rfl) (by kernel_rfl) (fun _ _ _ h => calm_panic h) (.inl ⟨rfl, ?_⟩) hBZ ?_
  · intro Z hZ; go_simp
  simp only [Act.put, List.setIfInBounds_toArray, List.set_cons_zero, List.set_cons_succ]
  refine takeY (i := 26) (oi := { dst := some 74, op := Go.Op.convert 23 9 (Go.Operand.tmp 73), type := 9, pos := "outright.go:49", after := #[{ on := 25, ground := Go.Ground.data }, { on := 24, ground := Go.Ground.guard }], guard := some (24, true) }) (v := .string s) [33, 32, 31] rfl (by kernel_rfl) (by kernel_rfl) (by kernel_rfl) (by kernel_rfl) (fun _ _ _ h => calm_panic h) (.inl ⟨rfl, ?_⟩) hBZ ?_
  · intro Z hZ; have k := HCY.out Z hZ; go_simp
  simp only [Act.put, List.setIfInBounds_toArray, List.set_cons_zero, List.set_cons_succ]
  refine takeY (i := 27) (oi := { dst := some 75, op := Go.Op.move (Go.Operand.tmp 1), type := 23, pos := "outright.go:49", after := #[{ on := 24, ground := Go.Ground.guard }], guard := some (24, true) }) (v := .slice a1 n1 c1) [33, 32, 31, 30, 29] rfl (by kernel_rfl) (by kernel_rfl) (by kernel_rfl) (by kernel_rfl) (fun _ _ _ h => calm_panic h) (.inl ⟨rfl, ?_⟩) hBZ ?_
  · intro Z hZ; go_simp
  simp only [Act.put, List.setIfInBounds_toArray, List.set_cons_zero, List.set_cons_succ]
  refine takeY (i := 28) (oi := { dst := some 76, op := Go.Op.move (Go.Operand.tmp 11), type := 3, pos := "outright.go:49", after := #[{ on := 24, ground := Go.Ground.guard }], guard := some (24, true) }) (v := .int .i64 (N : Nat)) [33, 32, 31, 30, 29] rfl (by kernel_rfl) (by kernel_rfl) (by kernel_rfl) (by kernel_rfl) (fun _ _ _ h => calm_panic h) (.inl ⟨rfl, ?_⟩) hBZ ?_
  · intro Z hZ; go_simp
  simp only [Act.put, List.setIfInBounds_toArray, List.set_cons_zero, List.set_cons_succ]
  refine takeY (i := 29) (oi := { dst := some 77, op := Go.Op.slice 23 (Go.Operand.tmp 75) none (some (Go.Operand.tmp 76)) none, type := 23, pos := "outright.go:49", after := #[{ on := 27, ground := Go.Ground.data }, { on := 28, ground := Go.Ground.data }, { on := 24, ground := Go.Ground.guard }], guard := some (24, true) }) (v := .slice a1 N c1) [33, 32, 31, 30] rfl (by kernel_rfl) (by kernel_rfl) (by kernel_rfl) (by kernel_rfl) (fun _ _ _ h => calm_panic h) (.inl ⟨rfl, ?_⟩) hBZ ?_
  · intro Z hZ; have k := slT Z; go_simp
  simp only [Act.put, List.setIfInBounds_toArray, List.set_cons_zero, List.set_cons_succ]
  refine takeY (i := 30) (oi := { dst := some 78, op := Go.Op.convert 23 9 (Go.Operand.tmp 77), type := 9, pos := "outright.go:49", after := #[{ on := 29, ground := Go.Ground.data }, { on := 24, ground := Go.Ground.guard }], guard := some (24, true) }) (v := .string s) [33, 32, 31] rfl (by kernel_rfl) (by kernel_rfl) (by kernel_rfl) (by kernel_rfl) (fun _ _ _ h => calm_panic h) (.inl ⟨rfl, ?_⟩) hBZ ?_
  · intro Z hZ; have k := HCB.out Z hZ; go_simp
  simp only [Act.put, List.setIfInBounds_toArray, List.set_cons_zero, List.set_cons_succ]
  refine takeY (i := 31) (oi := { dst := some 79, op := Go.Op.binOp Go.BinOp.eql 9 (Go.Operand.tmp 74) (Go.Operand.tmp 78) 9, type := 4, pos := "outright.go:49", after := #[{ on := 26, ground := Go.Ground.data }, { on := 30, ground := Go.Ground.data }, { on := 24, ground := Go.Ground.guard }], guard := some (24, true) }) (v := .bool true) [33, 32] rfl (by kernel_rfl) (by kernel_rfl) (by kernel_rfl) (by kernel_rfl) (fun _ _ _ h => calm_panic h) (.inl ⟨rfl, ?_⟩) hBZ ?_
  · intro Z hZ; go_simp
  simp only [Act.put, List.setIfInBounds_toArray, List.set_cons_zero, List.set_cons_succ]
  refine takeL (i := 32) (oi := { dst := some 80, op := Go.Op.pick (Go.Operand.tmp 72) (Go.Operand.tmp 79) (Go.Operand.const (Go.Value.bool false)), type := 4, pos := "outright.go:49", after := #[{ on := 24, ground := Go.Ground.data }, { on := 31, ground := Go.Ground.data }], guard := none }) (v := .bool true) [33] rfl (by kernel_rfl) (by kernel_rfl) (by kernel_rfl) (by kernel_rfl) (fun _ _ _ h => calm_panic h) rfl ?_ hBZ ?_
  · intro Z hZ; go_simp
  simp only [Act.put, List.setIfInBounds_toArray, List.set_cons_zero, List.set_cons_succ]
  refine oneL (i := 33) (o := { dst := some 4, op := Go.Op.assign (Go.Operand.tmp 80), type := 4, pos := "outright.go:49", after := #[{ on := 32, ground := Go.Ground.data }, { on := 24, ground := Go.Ground.chain }, { on := 0, ground := Go.Ground.phase }, { on := 1, ground := Go.Ground.phase }, { on := 2, ground := Go.Ground.phase }, { on := 3, ground := Go.Ground.phase }, { on := 4, ground := Go.Ground.phase }, { on := 5, ground := Go.Ground.phase }, { on := 6, ground := Go.Ground.phase }, { on := 7, ground := Go.Ground.phase }, { on := 8, ground := Go.Ground.phase }, { on := 9, ground := Go.Ground.phase }, { on := 10, ground := Go.Ground.phase }, { on := 11, ground := Go.Ground.phase }, { on := 12, ground := Go.Ground.phase }, { on := 13, ground := Go.Ground.phase }, { on := 14, ground := Go.Ground.phase }, { on := 15, ground := Go.Ground.phase }, { on := 16, ground := Go.Ground.phase }, { on := 17, ground := Go.Ground.phase }, { on := 18, ground := Go.Ground.phase }, { on := 19, ground := Go.Ground.phase }, { on := 20, ground := Go.Ground.phase }, { on := 21, ground := Go.Ground.phase }, { on := 22, ground := Go.Ground.phase }, { on := 23, ground := Go.Ground.phase }, { on := 24, ground := Go.Ground.phase }, { on := 25, ground := Go.Ground.phase }, { on := 26, ground := Go.Ground.phase }, { on := 27, ground := Go.Ground.phase }, { on := 28, ground := Go.Ground.phase }, { on := 29, ground := Go.Ground.phase }, { on := 30, ground := Go.Ground.phase }, { on := 31, ground := Go.Ground.phase }, { on := 32, ground := Go.Ground.phase }], guard := none }) rfl (by kernel_rfl) rfl ?_
  refine wp_by_run (w' := Z0) (v := .bool true) (by go_simp) ⟨fun h => absurd rfl h, ?_⟩
  simp only [Act.put, List.setIfInBounds_toArray, List.set_cons_zero, List.set_cons_succ]
  refine doneL (by kernel_rfl) (Calm.normal ?_) _
  go_wp2
  go_ret
  exact ⟨rfl, HB5.out.trans (hBZ.mono HB5.out.size)⟩

set_option maxRecDepth 100000 in
set_option maxHeartbeats 4000000 in
theorem back_bad (a0 : Option Addr) (n0 c0 : Nat) (ls : List (List Int)) (a1 : Option Addr) (n1 c1 : Nat) (xs : List Int) (w : World) (h0 : BssAt w.heap.size w a0 ls) (e0 : ls.length = n0) (hs0 : sizeN ls ≤ 10000000) (h1 : Bys8 w.heap.size w (.slice a1 n1 c1) xs) (e1 : xs.length = n1) (hc1 : n1 ≤ c1) (hq : ¬ 9000 < sizeN ls) (hq2 : ¬ 9000 < n1) (hR : ¬ ∀ L ∈ ls, RecL L) :
    Calls Try.prog 5 #[.slice a0 n0 c0, .slice a1 n1 c1] w fun e w' => e = .returned (.bool true) ∧ Below w.heap.size w w' := by
  have hn0 : n0 ≤ 10000000 := by have := sizeN_len ls; omega
  have HA := Lib.hid (alive_any w)
  have hg := fun (W : World) (hB : Below w.heap.size w W) => great_any a0 n0 c0 ls W (h0.from hB (Nat.le_refl _)) e0.symm hn0 hs0
  rw [show ((greatE (sizeN ls) : Nat) : Int) = 0 by unfold greatE; rw [if_neg hq]; rfl] at hg
  have HG := Lib.hid hg
  have i1 : ¬ (9000 : Int) < (n1 : Int) := by omega
  obtain ⟨xl, rest, hsc⟩ := scans_any xs.length xs (Nat.le_refl _) h1.1
  have hln := scans_len hsc
  obtain ⟨N, hN⟩ : ∃ N, sizeN xl = N := ⟨_, rfl⟩
  obtain ⟨xn, hxn⟩ : ∃ xn, xl.length = xn := ⟨_, rfl⟩
  have hNn : N ≤ n1 := by omega
  have i2 : (N : Int) ≤ (n1 : Int) := by omega
  have i3 : (N : Int) ≤ (c1 : Int) := by omega
  have i4 : (0 : Int) ≤ (N : Int) := by omega
  have hscan := fun (W : World) (hB : Below w.heap.size w W) => scan_any a1 n1 c1 xs xl rest W ((h1.below hB).mono hB.size) hc1 hsc (by omega)
  unfold ScanE at hscan
  rw [hN, hxn] at hscan
  have HSC := Lib.hid hscan
  have hback := fun (xa : Option Addr) (xc : Nat) (W : World) (h : BssAt W.heap.size W xa xl) => back_all xa xc xl rest xs hsc W h (by omega)
  rw [hN, hxn] at hback
  have HBK := Lib.hid hback
  have hall := fun (W : World) (hB : Below w.heap.size w W) => all_any a0 c0 ls W (h0.from hB (Nat.le_refl _)) hs0 (by omega)
  rw [e0] at hall
  have hT := h1.take N (by omega)
  have slT := fun (W : World) => slice_to8 W a1 n1 c1 N (by omega)
  have HALL := Lib.hid (fun (W : World) (hB : Below w.heap.size w W) => show Calls Try.prog 9 #[.slice a0 n0 c0] W (fun e w' => e = .returned (.tuple #[.slice none 0 0, .int .i64 130]) ∧ Below W.heap.size W w') from (hall W hB).mono (by
    rintro e w' (⟨q, _⟩ | ⟨_, he, hB⟩)
    · exact absurd q hR
    · exact ⟨he, hB⟩))
  have HEX := Lib.hid (fun (W : World) => show Calls Try.prog 16 #[.slice none 0 0] W (fun e w' => ∃ a c, e = .returned (.tuple #[.slice a 0 c, .int .i64 0]) ∧ Below W.heap.size W w') from (exact_any none 0 0 [] [] [] W (bys8_nil _ _ _ _) (Nat.le_refl _) ⟨rfl, (fun L hL => by cases hL), .inl rfl⟩ (by simp)).mono (by
    rintro e w' (⟨_, a, c, he, _, hb, hB⟩ | ⟨q, _⟩)
    · exact ⟨a, c, he, hB⟩
    · exact absurd rfl q))
  have HX := Lib.hid (And.intro hT hNn)
  clear h0 e0 hs0 h1 e1 hc1 hq hq2 hn0 hg hln hN hxn hscan hback hall hT hR hNn
  go_enter Try.func5, Try.ntmps5
  go_wp2_with (first
    | (go_at_call 17; refine HA.out.mono ?_; rintro e w1 ⟨rfl, hB1⟩)
    | (go_at_call 8; refine (HG.out w1 hB1).mono ?_; rintro e wg ⟨rfl, rfl⟩)
    | (go_at_call 9; refine (HALL.out w1 hB1).mono ?_; rintro e w2 ⟨rfl, hB2⟩
       have HB2 := Lib.hid (hB1.trans (hB2.mono hB1.size))
       clear hB2 HALL)
    | (go_at_call 16; refine (HEX.out w2).mono ?_; rintro e w3 ⟨ma, mc, rfl, hB3⟩
       have HB3 := Lib.hid (HB2.out.trans (hB3.mono HB2.out.size))
       clear hB3)
    | (go_at_call 13; refine (HSC.out w3 HB3.out).mono ?_; rintro e w4 ⟨xa, xc, rfl, _, hxb, hB4⟩
       have HB4 := Lib.hid (HB3.out.trans (hB4.mono HB3.out.size))
       have HK4 := Lib.hid (HBK.out xa xc w4 hxb)
       clear hxb hB4)
    | (go_at_call 9; refine HK4.out.mono ?_; rintro e w5 ⟨ya, yc, rfl, hyb, hB5⟩
       have HB5 := Lib.hid (HB4.out.trans (hB5.mono HB4.out.size))
       have HY5 := Lib.hid hyb
       clear hyb hB5)
    | fail)
  have cY : ∀ q, (convert 23 9 (.slice ya N yc)).run Try.prog (w5.drewN q) = .ok (.string (strOfNums (xs.take N))) (w5.drewN q) := fun q => conv8 (HY5.out.below (below_drewN (Below.refl _ _) q))
  have cB : ∀ q, (convert 23 9 (.slice a1 N c1)).run Try.prog (w5.drewN q) = .ok (.string (strOfNums (xs.take N))) (w5.drewN q) := fun q => conv8 (HX.out.1.below (below_drewN HB5.out q))
  generalize strOfNums (xs.take N) = s at *
  go_quiet (fail)
  go_wp2
  go_ret
  exact ⟨rfl, below_drewN HB5.out _⟩

theorem backW (a0 : Option Addr) (c0 : Nat) (ls : List (List Int)) (a1 : Option Addr) (n1 c1 : Nat) (z1 : List Int) (w : World) (w0 : ls.length ≤ c0 ∧ BssAt w.heap.size w a0 ls ∧ sizeN ls ≤ 10000000) (w1 : IsRow .u8 w a1 n1 c1 z1) :
    Calls Try.prog 5 #[.slice a0 ls.length c0, .slice a1 n1 c1] w fun e w' => e = .returned (.bool true) ∧ Below w.heap.size w w' := by
  obtain ⟨_, h0, hs0⟩ := w0
  obtain ⟨xs, e1, h1⟩ := bys8_of_row w1
  have hc1 := row_cap w1
  by_cases hq : 9000 < sizeN ls
  · exact back_g1 a0 _ c0 ls a1 n1 c1 xs w h0 rfl hs0 h1 e1 hc1 hq
  · by_cases hq2 : 9000 < n1
    · exact back_g2 a0 _ c0 ls a1 n1 c1 xs w h0 rfl hs0 h1 e1 hc1 hq hq2
    · by_cases hR : ∀ L ∈ ls, RecL L
      · exact back_good a0 _ c0 ls a1 n1 c1 xs w h0 rfl hs0 h1 e1 hc1 hq hq2 hR
      · exact back_bad a0 _ c0 ls a1 n1 c1 xs w h0 rfl hs0 h1 e1 hc1 hq hq2 hR
end Go.Proofs.Ytmhgphbafiilnaa