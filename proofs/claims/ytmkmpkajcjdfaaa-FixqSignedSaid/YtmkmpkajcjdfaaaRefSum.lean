/- The contract of the document's Sum of two signed numbers. -/
import Derived.Test.YtmkmpkajcjdfaaaMinus
import Derived.Test.YtmkmpkajcjdfaaaBare
import Derived.Test.YtmkmpkajcjdfaaaSigned
set_option linter.unusedVariables false
namespace Go.Proofs.Ytmkmpkajcjdfaaa
open Go.RowKit
set_option maxRecDepth 10000 in
set_option maxHeartbeats 1000000 in
theorem rsum_same (p : Bool) (a b : Nat) (hab : a + b < 2 ^ 200) (w : World) :
    Calls Try.prog 19 #[.agg (nb p a), .agg (nb p b)] w fun e w' => e = .returned (.agg (nb p (a + b))) ∧ Below w.heap.size w w' := by
  have hz := (zero_of_info info42).1
  have b1 : At (((w.alloc (.cells (nb p a) 42)).alloc (.cells (nb p b) 42)).alloc (.cells zeroNum 42)) w.heap.size (num p (bitf a)) := ((At.new w (nb p a)).alloc _).alloc _
  have b2 : At (((w.alloc (.cells (nb p a) 42)).alloc (.cells (nb p b) 42)).alloc (.cells zeroNum 42)) (w.heap.size + 1) (num p (bitf b)) := by
    have := (At.new (w.alloc (.cells (nb p a) 42)) (nb p b)).alloc (.cells zeroNum 42)
    rwa [World.size_alloc] at this
  have b3 : At (((w.alloc (.cells (nb p a) 42)).alloc (.cells (nb p b) 42)).alloc (.cells zeroNum 42)) (w.heap.size + 1 + 1) (num false (fun _ => 0)) := by
    have := At.new ((w.alloc (.cells (nb p a) 42)).alloc (.cells (nb p b) 42)) zeroNum
    rwa [World.size_alloc, World.size_alloc] at this
  have hB : Below w.heap.size w (((w.alloc (.cells (nb p a) 42)).alloc (.cells (nb p b) 42)).alloc (.cells zeroNum 42)) := (((Below.refl _ w).alloc (Nat.le_refl _) _).alloc (by simp) _).alloc (by simp; omega) _
  go_enter Try.func19, Try.ntmps19
  have e1 : (nb p a)[0]? = some (.bool p) := by simp [nb, num]
  have e2 : (nb p b)[0]? = some (.bool p) := by simp [nb, num]
  have H1 := Lib.hid b1
  have H2 := Lib.hid b2
  have H3 := Lib.hid b3
  have HB := Lib.hid hB
  clear b1 b2 b3 hB
  go_wp2_with (first | (refine load_num H1.out rfl rfl rfl ?_) | (refine load_num H2.out rfl rfl rfl ?_))
  refine (plus_any p p a b hab _).mono ?_
  rintro e w1 ⟨rfl, hB1⟩
  have k1 : At w1 w.heap.size (num p (bitf a)) := H1.out.below H1.out.lt hB1
  have k3 : At w1 (w.heap.size + 1 + 1) (num false (fun _ => 0)) := H3.out.below H3.out.lt hB1
  have hBw : Below w.heap.size w w1 := HB.out.trans (hB1.mono HB.out.size)
  obtain ⟨w2, ew, x2, keep, hB2⟩ := fresh w1 false (bitf (a + b))
  have n1 := (keep _ _ k1).neg
  have l3 := keep _ _ k3
  have hlt := k3.lt
  have hB3 : Below w.heap.size w w2 := hBw.trans (hB2.mono hBw.size)
  have c2 := x2.neg
  have f2 := x2.free 0
  have HX := Lib.hid (At.new w1 zeroNum)
  have HW := Lib.hid ew
  have HX2 := Lib.hid (x2.setNeg p)
  have HK3 := Lib.hid (l3.other (.bool p) (a := ⟨w1.heap.size, 0, none⟩) (by dsimp only; omega))
  clear k1 k3 H1 H2 H3 HB hB1 ew x2 keep l3
  go_wp2_with (first | (refine store_num (f' := fun _ => 0) HX.out rfl rfl rfl rfl ?_; rw [HW.out]) | (refine load_num HX2.out rfl rfl rfl ?_) | (refine store_num HK3.out rfl rfl rfl rfl ?_))
  exact bodyPost_ret (v := .agg (nb p (a + b))) (results_cell_row rfl _ _ (w.heap.size + 1 + 1) _ _ _ _ rfl HK3.out.row Try.underlying42 rfl (size42 _ _)) rfl ⟨rfl, below_row (hB3.setCell (p := ⟨w1.heap.size, 0, none⟩) (by dsimp only; omega) _) (by omega) _⟩
set_option maxRecDepth 10000 in
set_option maxHeartbeats 1000000 in
theorem rsum_true_gt (a b : Nat) (hst : stand a b = 1) (h1 : b ≤ a) (h2 : a < 2 ^ 200) (h3 : b < 2 ^ 200) (w : World) :
    Calls Try.prog 19 #[.agg (nb true a), .agg (nb false b)] w fun e w' => e = .returned (.agg (nb true (a - b))) ∧ Below w.heap.size w w' := by
  have hz := (zero_of_info info42).1
  have b1 : At (((w.alloc (.cells (nb true a) 42)).alloc (.cells (nb false b) 42)).alloc (.cells zeroNum 42)) w.heap.size (num true (bitf a)) := ((At.new w (nb true a)).alloc _).alloc _
  have b2 : At (((w.alloc (.cells (nb true a) 42)).alloc (.cells (nb false b) 42)).alloc (.cells zeroNum 42)) (w.heap.size + 1) (num false (bitf b)) := by
    have := (At.new (w.alloc (.cells (nb true a) 42)) (nb false b)).alloc (.cells zeroNum 42)
    rwa [World.size_alloc] at this
  have b3 : At (((w.alloc (.cells (nb true a) 42)).alloc (.cells (nb false b) 42)).alloc (.cells zeroNum 42)) (w.heap.size + 1 + 1) (num false (fun _ => 0)) := by
    have := At.new ((w.alloc (.cells (nb true a) 42)).alloc (.cells (nb false b) 42)) zeroNum
    rwa [World.size_alloc, World.size_alloc] at this
  have hB : Below w.heap.size w (((w.alloc (.cells (nb true a) 42)).alloc (.cells (nb false b) 42)).alloc (.cells zeroNum 42)) := (((Below.refl _ w).alloc (Nat.le_refl _) _).alloc (by simp) _).alloc (by simp; omega) _
  have e1 : (nb true a)[0]? = some (.bool true) := by simp [nb, num]
  have e2 : (nb false b)[0]? = some (.bool false) := by simp [nb, num]
  have H1 := Lib.hid b1
  have H2 := Lib.hid b2
  have H3 := Lib.hid b3
  have HB := Lib.hid hB
  clear b1 b2 b3 hB
  have hbare : ∀ W : World, Calls Try.prog 26 #[.agg (num true (bitf a)), .agg (num false (bitf b))] W fun e w' => e = .returned (.int .i64 1) ∧ Below W.heap.size W w' := fun W => by
    have k := bare_any true false a b h2 h3 W
    rwa [hst] at k
  have HBA := Lib.hid hbare
  have HL := Lib.hid h1
  have HQ := Lib.hid h2
  have HR := Lib.hid h3
  clear hbare h1 h2 h3 hst
  go_enter Try.func19, Try.ntmps19
  go_wp2_with (first | (refine load_num H1.out rfl rfl rfl ?_) | (refine load_num H2.out rfl rfl rfl ?_))
  refine (HBA.out _).mono ?_
  rintro e w1 ⟨rfl, hB1⟩
  have K1 := Lib.hid (H1.out.below H1.out.lt hB1)
  have K2 := Lib.hid (H2.out.below H2.out.lt hB1)
  have K3 := Lib.hid (H3.out.below H3.out.lt hB1)
  have hBw : Below w.heap.size w w1 := HB.out.trans (hB1.mono HB.out.size)
  clear H1 H2 H3 HB hB1 HBA
  go_wp2_with (first | (refine load_num K1.out rfl rfl rfl ?_) | (refine load_num K2.out rfl rfl rfl ?_))
  refine (minus_any true false a b ⟨HL.out, HQ.out⟩ _).mono ?_
  rintro e w2 ⟨rfl, hB2⟩
  have k1 := K1.out.below K1.out.lt hB2
  have k2 := K2.out.below K2.out.lt hB2
  have k3 := K3.out.below K3.out.lt hB2
  have hBx : Below w.heap.size w w2 := hBw.trans (hB2.mono hBw.size)
  obtain ⟨w3, ew, x3, keep, hB3⟩ := fresh w2 false (bitf (a - b))
  have n1 := (keep _ _ k1).neg
  have l3 := keep _ _ k3
  have hlt := k3.lt
  have hB4 : Below w.heap.size w w3 := hBx.trans (hB3.mono hBx.size)
  have c2 := x3.neg
  have f2 := x3.free 0
  have HX := Lib.hid (At.new w2 zeroNum)
  have HW := Lib.hid ew
  have HX2 := Lib.hid (x3.setNeg true)
  have HK3 := Lib.hid (l3.other (.bool true) (a := ⟨w2.heap.size, 0, none⟩) (by dsimp only; omega))
  clear k1 k2 k3 K1 K2 K3 hB2 hBw ew x3 keep l3 hB3
  go_wp2_with (first | (refine store_num (f' := fun _ => 0) HX.out rfl rfl rfl rfl ?_; rw [HW.out]) | (refine load_num HX2.out rfl rfl rfl ?_) | (refine store_num HK3.out rfl rfl rfl rfl ?_))
  exact bodyPost_ret (v := .agg (nb true (a - b))) (results_cell_row rfl _ _ (w.heap.size + 1 + 1) _ _ _ _ rfl HK3.out.row Try.underlying42 rfl (size42 _ _)) rfl ⟨rfl, below_row (hB4.setCell (p := ⟨w2.heap.size, 0, none⟩) (by dsimp only; omega) _) (by omega) _⟩
set_option maxRecDepth 10000 in
set_option maxHeartbeats 1000000 in
theorem rsum_true_eq (a b : Nat) (hst : stand a b = 0) (h1 : b ≤ a) (h2 : a < 2 ^ 200) (h3 : b < 2 ^ 200) (w : World) :
    Calls Try.prog 19 #[.agg (nb true a), .agg (nb false b)] w fun e w' => e = .returned (.agg (nb false (a - b))) ∧ Below w.heap.size w w' := by
  have hz := (zero_of_info info42).1
  have b1 : At (((w.alloc (.cells (nb true a) 42)).alloc (.cells (nb false b) 42)).alloc (.cells zeroNum 42)) w.heap.size (num true (bitf a)) := ((At.new w (nb true a)).alloc _).alloc _
  have b2 : At (((w.alloc (.cells (nb true a) 42)).alloc (.cells (nb false b) 42)).alloc (.cells zeroNum 42)) (w.heap.size + 1) (num false (bitf b)) := by
    have := (At.new (w.alloc (.cells (nb true a) 42)) (nb false b)).alloc (.cells zeroNum 42)
    rwa [World.size_alloc] at this
  have b3 : At (((w.alloc (.cells (nb true a) 42)).alloc (.cells (nb false b) 42)).alloc (.cells zeroNum 42)) (w.heap.size + 1 + 1) (num false (fun _ => 0)) := by
    have := At.new ((w.alloc (.cells (nb true a) 42)).alloc (.cells (nb false b) 42)) zeroNum
    rwa [World.size_alloc, World.size_alloc] at this
  have hB : Below w.heap.size w (((w.alloc (.cells (nb true a) 42)).alloc (.cells (nb false b) 42)).alloc (.cells zeroNum 42)) := (((Below.refl _ w).alloc (Nat.le_refl _) _).alloc (by simp) _).alloc (by simp; omega) _
  have e1 : (nb true a)[0]? = some (.bool true) := by simp [nb, num]
  have e2 : (nb false b)[0]? = some (.bool false) := by simp [nb, num]
  have H1 := Lib.hid b1
  have H2 := Lib.hid b2
  have H3 := Lib.hid b3
  have HB := Lib.hid hB
  clear b1 b2 b3 hB
  have hbare : ∀ W : World, Calls Try.prog 26 #[.agg (num true (bitf a)), .agg (num false (bitf b))] W fun e w' => e = .returned (.int .i64 0) ∧ Below W.heap.size W w' := fun W => by
    have k := bare_any true false a b h2 h3 W
    rwa [hst] at k
  have HBA := Lib.hid hbare
  have HL := Lib.hid h1
  have HQ := Lib.hid h2
  have HR := Lib.hid h3
  clear hbare h1 h2 h3 hst
  go_enter Try.func19, Try.ntmps19
  go_wp2_with (first | (refine load_num H1.out rfl rfl rfl ?_) | (refine load_num H2.out rfl rfl rfl ?_))
  refine (HBA.out _).mono ?_
  rintro e w1 ⟨rfl, hB1⟩
  have K1 := Lib.hid (H1.out.below H1.out.lt hB1)
  have K2 := Lib.hid (H2.out.below H2.out.lt hB1)
  have K3 := Lib.hid (H3.out.below H3.out.lt hB1)
  have hBw : Below w.heap.size w w1 := HB.out.trans (hB1.mono HB.out.size)
  clear H1 H2 H3 HB hB1 HBA
  go_wp2_with (first | (refine load_num K1.out rfl rfl rfl ?_) | (refine load_num K2.out rfl rfl rfl ?_))
  refine (minus_any true false a b ⟨HL.out, HQ.out⟩ _).mono ?_
  rintro e w2 ⟨rfl, hB2⟩
  have k1 := K1.out.below K1.out.lt hB2
  have k2 := K2.out.below K2.out.lt hB2
  have k3 := K3.out.below K3.out.lt hB2
  have hBx : Below w.heap.size w w2 := hBw.trans (hB2.mono hBw.size)
  obtain ⟨w3, ew, x3, keep, hB3⟩ := fresh w2 false (bitf (a - b))
  have n1 := (keep _ _ k1).neg
  have l3 := keep _ _ k3
  have hlt := k3.lt
  have hB4 : Below w.heap.size w w3 := hBx.trans (hB3.mono hBx.size)
  have c2 := x3.neg
  have f2 := x3.free 0
  have HX := Lib.hid (At.new w2 zeroNum)
  have HW := Lib.hid ew
  have HX2 := Lib.hid (x3.setNeg false)
  have HK3 := Lib.hid (l3.other (.bool false) (a := ⟨w2.heap.size, 0, none⟩) (by dsimp only; omega))
  clear k1 k2 k3 K1 K2 K3 hB2 hBw ew x3 keep l3 hB3
  go_wp2_with (first | (refine store_num (f' := fun _ => 0) HX.out rfl rfl rfl rfl ?_; rw [HW.out]) | (refine load_num HX2.out rfl rfl rfl ?_) | (refine store_num HK3.out rfl rfl rfl rfl ?_))
  exact bodyPost_ret (v := .agg (nb false (a - b))) (results_cell_row rfl _ _ (w.heap.size + 1 + 1) _ _ _ _ rfl HK3.out.row Try.underlying42 rfl (size42 _ _)) rfl ⟨rfl, below_row (hB4.setCell (p := ⟨w2.heap.size, 0, none⟩) (by dsimp only; omega) _) (by omega) _⟩
set_option maxRecDepth 10000 in
set_option maxHeartbeats 1000000 in
theorem rsum_true_lt (a b : Nat) (hst : stand a b = (-1)) (h1 : a ≤ b) (h2 : a < 2 ^ 200) (h3 : b < 2 ^ 200) (w : World) :
    Calls Try.prog 19 #[.agg (nb true a), .agg (nb false b)] w fun e w' => e = .returned (.agg (nb false (b - a))) ∧ Below w.heap.size w w' := by
  have hz := (zero_of_info info42).1
  have b1 : At (((w.alloc (.cells (nb true a) 42)).alloc (.cells (nb false b) 42)).alloc (.cells zeroNum 42)) w.heap.size (num true (bitf a)) := ((At.new w (nb true a)).alloc _).alloc _
  have b2 : At (((w.alloc (.cells (nb true a) 42)).alloc (.cells (nb false b) 42)).alloc (.cells zeroNum 42)) (w.heap.size + 1) (num false (bitf b)) := by
    have := (At.new (w.alloc (.cells (nb true a) 42)) (nb false b)).alloc (.cells zeroNum 42)
    rwa [World.size_alloc] at this
  have b3 : At (((w.alloc (.cells (nb true a) 42)).alloc (.cells (nb false b) 42)).alloc (.cells zeroNum 42)) (w.heap.size + 1 + 1) (num false (fun _ => 0)) := by
    have := At.new ((w.alloc (.cells (nb true a) 42)).alloc (.cells (nb false b) 42)) zeroNum
    rwa [World.size_alloc, World.size_alloc] at this
  have hB : Below w.heap.size w (((w.alloc (.cells (nb true a) 42)).alloc (.cells (nb false b) 42)).alloc (.cells zeroNum 42)) := (((Below.refl _ w).alloc (Nat.le_refl _) _).alloc (by simp) _).alloc (by simp; omega) _
  have e1 : (nb true a)[0]? = some (.bool true) := by simp [nb, num]
  have e2 : (nb false b)[0]? = some (.bool false) := by simp [nb, num]
  have H1 := Lib.hid b1
  have H2 := Lib.hid b2
  have H3 := Lib.hid b3
  have HB := Lib.hid hB
  clear b1 b2 b3 hB
  have hbare : ∀ W : World, Calls Try.prog 26 #[.agg (num true (bitf a)), .agg (num false (bitf b))] W fun e w' => e = .returned (.int .i64 (-1)) ∧ Below W.heap.size W w' := fun W => by
    have k := bare_any true false a b h2 h3 W
    rwa [hst] at k
  have HBA := Lib.hid hbare
  have HL := Lib.hid h1
  have HQ := Lib.hid h2
  have HR := Lib.hid h3
  clear hbare h1 h2 h3 hst
  go_enter Try.func19, Try.ntmps19
  go_wp2_with (first | (refine load_num H1.out rfl rfl rfl ?_) | (refine load_num H2.out rfl rfl rfl ?_))
  refine (HBA.out _).mono ?_
  rintro e w1 ⟨rfl, hB1⟩
  have K1 := Lib.hid (H1.out.below H1.out.lt hB1)
  have K2 := Lib.hid (H2.out.below H2.out.lt hB1)
  have K3 := Lib.hid (H3.out.below H3.out.lt hB1)
  have hBw : Below w.heap.size w w1 := HB.out.trans (hB1.mono HB.out.size)
  clear H1 H2 H3 HB hB1 HBA
  go_wp2_with (first | (refine load_num K1.out rfl rfl rfl ?_) | (refine load_num K2.out rfl rfl rfl ?_))
  refine (minus_any false true b a ⟨HL.out, HR.out⟩ _).mono ?_
  rintro e w2 ⟨rfl, hB2⟩
  have k1 := K1.out.below K1.out.lt hB2
  have k2 := K2.out.below K2.out.lt hB2
  have k3 := K3.out.below K3.out.lt hB2
  have hBx : Below w.heap.size w w2 := hBw.trans (hB2.mono hBw.size)
  obtain ⟨w3, ew, x3, keep, hB3⟩ := fresh w2 false (bitf (b - a))
  have n1 := (keep _ _ k2).neg
  have l3 := keep _ _ k3
  have hlt := k3.lt
  have hB4 : Below w.heap.size w w3 := hBx.trans (hB3.mono hBx.size)
  have c2 := x3.neg
  have f2 := x3.free 0
  have HX := Lib.hid (At.new w2 zeroNum)
  have HW := Lib.hid ew
  have HX2 := Lib.hid (x3.setNeg false)
  have HK3 := Lib.hid (l3.other (.bool false) (a := ⟨w2.heap.size, 0, none⟩) (by dsimp only; omega))
  clear k1 k2 k3 K1 K2 K3 hB2 hBw ew x3 keep l3 hB3
  go_wp2_with (first | (refine store_num (f' := fun _ => 0) HX.out rfl rfl rfl rfl ?_; rw [HW.out]) | (refine load_num HX2.out rfl rfl rfl ?_) | (refine store_num HK3.out rfl rfl rfl rfl ?_))
  exact bodyPost_ret (v := .agg (nb false (b - a))) (results_cell_row rfl _ _ (w.heap.size + 1 + 1) _ _ _ _ rfl HK3.out.row Try.underlying42 rfl (size42 _ _)) rfl ⟨rfl, below_row (hB4.setCell (p := ⟨w2.heap.size, 0, none⟩) (by dsimp only; omega) _) (by omega) _⟩
set_option maxRecDepth 10000 in
set_option maxHeartbeats 1000000 in
theorem rsum_false_gt (a b : Nat) (hst : stand a b = 1) (h1 : b ≤ a) (h2 : a < 2 ^ 200) (h3 : b < 2 ^ 200) (w : World) :
    Calls Try.prog 19 #[.agg (nb false a), .agg (nb true b)] w fun e w' => e = .returned (.agg (nb false (a - b))) ∧ Below w.heap.size w w' := by
  have hz := (zero_of_info info42).1
  have b1 : At (((w.alloc (.cells (nb false a) 42)).alloc (.cells (nb true b) 42)).alloc (.cells zeroNum 42)) w.heap.size (num false (bitf a)) := ((At.new w (nb false a)).alloc _).alloc _
  have b2 : At (((w.alloc (.cells (nb false a) 42)).alloc (.cells (nb true b) 42)).alloc (.cells zeroNum 42)) (w.heap.size + 1) (num true (bitf b)) := by
    have := (At.new (w.alloc (.cells (nb false a) 42)) (nb true b)).alloc (.cells zeroNum 42)
    rwa [World.size_alloc] at this
  have b3 : At (((w.alloc (.cells (nb false a) 42)).alloc (.cells (nb true b) 42)).alloc (.cells zeroNum 42)) (w.heap.size + 1 + 1) (num false (fun _ => 0)) := by
    have := At.new ((w.alloc (.cells (nb false a) 42)).alloc (.cells (nb true b) 42)) zeroNum
    rwa [World.size_alloc, World.size_alloc] at this
  have hB : Below w.heap.size w (((w.alloc (.cells (nb false a) 42)).alloc (.cells (nb true b) 42)).alloc (.cells zeroNum 42)) := (((Below.refl _ w).alloc (Nat.le_refl _) _).alloc (by simp) _).alloc (by simp; omega) _
  have e1 : (nb false a)[0]? = some (.bool false) := by simp [nb, num]
  have e2 : (nb true b)[0]? = some (.bool true) := by simp [nb, num]
  have H1 := Lib.hid b1
  have H2 := Lib.hid b2
  have H3 := Lib.hid b3
  have HB := Lib.hid hB
  clear b1 b2 b3 hB
  have hbare : ∀ W : World, Calls Try.prog 26 #[.agg (num false (bitf a)), .agg (num true (bitf b))] W fun e w' => e = .returned (.int .i64 1) ∧ Below W.heap.size W w' := fun W => by
    have k := bare_any false true a b h2 h3 W
    rwa [hst] at k
  have HBA := Lib.hid hbare
  have HL := Lib.hid h1
  have HQ := Lib.hid h2
  have HR := Lib.hid h3
  clear hbare h1 h2 h3 hst
  go_enter Try.func19, Try.ntmps19
  go_wp2_with (first | (refine load_num H1.out rfl rfl rfl ?_) | (refine load_num H2.out rfl rfl rfl ?_))
  refine (HBA.out _).mono ?_
  rintro e w1 ⟨rfl, hB1⟩
  have K1 := Lib.hid (H1.out.below H1.out.lt hB1)
  have K2 := Lib.hid (H2.out.below H2.out.lt hB1)
  have K3 := Lib.hid (H3.out.below H3.out.lt hB1)
  have hBw : Below w.heap.size w w1 := HB.out.trans (hB1.mono HB.out.size)
  clear H1 H2 H3 HB hB1 HBA
  go_wp2_with (first | (refine load_num K1.out rfl rfl rfl ?_) | (refine load_num K2.out rfl rfl rfl ?_))
  refine (minus_any false true a b ⟨HL.out, HQ.out⟩ _).mono ?_
  rintro e w2 ⟨rfl, hB2⟩
  have k1 := K1.out.below K1.out.lt hB2
  have k2 := K2.out.below K2.out.lt hB2
  have k3 := K3.out.below K3.out.lt hB2
  have hBx : Below w.heap.size w w2 := hBw.trans (hB2.mono hBw.size)
  obtain ⟨w3, ew, x3, keep, hB3⟩ := fresh w2 false (bitf (a - b))
  have n1 := (keep _ _ k1).neg
  have l3 := keep _ _ k3
  have hlt := k3.lt
  have hB4 : Below w.heap.size w w3 := hBx.trans (hB3.mono hBx.size)
  have c2 := x3.neg
  have f2 := x3.free 0
  have HX := Lib.hid (At.new w2 zeroNum)
  have HW := Lib.hid ew
  have HX2 := Lib.hid (x3.setNeg false)
  have HK3 := Lib.hid (l3.other (.bool false) (a := ⟨w2.heap.size, 0, none⟩) (by dsimp only; omega))
  clear k1 k2 k3 K1 K2 K3 hB2 hBw ew x3 keep l3 hB3
  go_wp2_with (first | (refine store_num (f' := fun _ => 0) HX.out rfl rfl rfl rfl ?_; rw [HW.out]) | (refine load_num HX2.out rfl rfl rfl ?_) | (refine store_num HK3.out rfl rfl rfl rfl ?_))
  exact bodyPost_ret (v := .agg (nb false (a - b))) (results_cell_row rfl _ _ (w.heap.size + 1 + 1) _ _ _ _ rfl HK3.out.row Try.underlying42 rfl (size42 _ _)) rfl ⟨rfl, below_row (hB4.setCell (p := ⟨w2.heap.size, 0, none⟩) (by dsimp only; omega) _) (by omega) _⟩
set_option maxRecDepth 10000 in
set_option maxHeartbeats 1000000 in
theorem rsum_false_eq (a b : Nat) (hst : stand a b = 0) (h1 : b ≤ a) (h2 : a < 2 ^ 200) (h3 : b < 2 ^ 200) (w : World) :
    Calls Try.prog 19 #[.agg (nb false a), .agg (nb true b)] w fun e w' => e = .returned (.agg (nb false (a - b))) ∧ Below w.heap.size w w' := by
  have hz := (zero_of_info info42).1
  have b1 : At (((w.alloc (.cells (nb false a) 42)).alloc (.cells (nb true b) 42)).alloc (.cells zeroNum 42)) w.heap.size (num false (bitf a)) := ((At.new w (nb false a)).alloc _).alloc _
  have b2 : At (((w.alloc (.cells (nb false a) 42)).alloc (.cells (nb true b) 42)).alloc (.cells zeroNum 42)) (w.heap.size + 1) (num true (bitf b)) := by
    have := (At.new (w.alloc (.cells (nb false a) 42)) (nb true b)).alloc (.cells zeroNum 42)
    rwa [World.size_alloc] at this
  have b3 : At (((w.alloc (.cells (nb false a) 42)).alloc (.cells (nb true b) 42)).alloc (.cells zeroNum 42)) (w.heap.size + 1 + 1) (num false (fun _ => 0)) := by
    have := At.new ((w.alloc (.cells (nb false a) 42)).alloc (.cells (nb true b) 42)) zeroNum
    rwa [World.size_alloc, World.size_alloc] at this
  have hB : Below w.heap.size w (((w.alloc (.cells (nb false a) 42)).alloc (.cells (nb true b) 42)).alloc (.cells zeroNum 42)) := (((Below.refl _ w).alloc (Nat.le_refl _) _).alloc (by simp) _).alloc (by simp; omega) _
  have e1 : (nb false a)[0]? = some (.bool false) := by simp [nb, num]
  have e2 : (nb true b)[0]? = some (.bool true) := by simp [nb, num]
  have H1 := Lib.hid b1
  have H2 := Lib.hid b2
  have H3 := Lib.hid b3
  have HB := Lib.hid hB
  clear b1 b2 b3 hB
  have hbare : ∀ W : World, Calls Try.prog 26 #[.agg (num false (bitf a)), .agg (num true (bitf b))] W fun e w' => e = .returned (.int .i64 0) ∧ Below W.heap.size W w' := fun W => by
    have k := bare_any false true a b h2 h3 W
    rwa [hst] at k
  have HBA := Lib.hid hbare
  have HL := Lib.hid h1
  have HQ := Lib.hid h2
  have HR := Lib.hid h3
  clear hbare h1 h2 h3 hst
  go_enter Try.func19, Try.ntmps19
  go_wp2_with (first | (refine load_num H1.out rfl rfl rfl ?_) | (refine load_num H2.out rfl rfl rfl ?_))
  refine (HBA.out _).mono ?_
  rintro e w1 ⟨rfl, hB1⟩
  have K1 := Lib.hid (H1.out.below H1.out.lt hB1)
  have K2 := Lib.hid (H2.out.below H2.out.lt hB1)
  have K3 := Lib.hid (H3.out.below H3.out.lt hB1)
  have hBw : Below w.heap.size w w1 := HB.out.trans (hB1.mono HB.out.size)
  clear H1 H2 H3 HB hB1 HBA
  go_wp2_with (first | (refine load_num K1.out rfl rfl rfl ?_) | (refine load_num K2.out rfl rfl rfl ?_))
  refine (minus_any false true a b ⟨HL.out, HQ.out⟩ _).mono ?_
  rintro e w2 ⟨rfl, hB2⟩
  have k1 := K1.out.below K1.out.lt hB2
  have k2 := K2.out.below K2.out.lt hB2
  have k3 := K3.out.below K3.out.lt hB2
  have hBx : Below w.heap.size w w2 := hBw.trans (hB2.mono hBw.size)
  obtain ⟨w3, ew, x3, keep, hB3⟩ := fresh w2 false (bitf (a - b))
  have n1 := (keep _ _ k1).neg
  have l3 := keep _ _ k3
  have hlt := k3.lt
  have hB4 : Below w.heap.size w w3 := hBx.trans (hB3.mono hBx.size)
  have c2 := x3.neg
  have f2 := x3.free 0
  have HX := Lib.hid (At.new w2 zeroNum)
  have HW := Lib.hid ew
  have HX2 := Lib.hid (x3.setNeg false)
  have HK3 := Lib.hid (l3.other (.bool false) (a := ⟨w2.heap.size, 0, none⟩) (by dsimp only; omega))
  clear k1 k2 k3 K1 K2 K3 hB2 hBw ew x3 keep l3 hB3
  go_wp2_with (first | (refine store_num (f' := fun _ => 0) HX.out rfl rfl rfl rfl ?_; rw [HW.out]) | (refine load_num HX2.out rfl rfl rfl ?_) | (refine store_num HK3.out rfl rfl rfl rfl ?_))
  exact bodyPost_ret (v := .agg (nb false (a - b))) (results_cell_row rfl _ _ (w.heap.size + 1 + 1) _ _ _ _ rfl HK3.out.row Try.underlying42 rfl (size42 _ _)) rfl ⟨rfl, below_row (hB4.setCell (p := ⟨w2.heap.size, 0, none⟩) (by dsimp only; omega) _) (by omega) _⟩
set_option maxRecDepth 10000 in
set_option maxHeartbeats 1000000 in
theorem rsum_false_lt (a b : Nat) (hst : stand a b = (-1)) (h1 : a ≤ b) (h2 : a < 2 ^ 200) (h3 : b < 2 ^ 200) (w : World) :
    Calls Try.prog 19 #[.agg (nb false a), .agg (nb true b)] w fun e w' => e = .returned (.agg (nb true (b - a))) ∧ Below w.heap.size w w' := by
  have hz := (zero_of_info info42).1
  have b1 : At (((w.alloc (.cells (nb false a) 42)).alloc (.cells (nb true b) 42)).alloc (.cells zeroNum 42)) w.heap.size (num false (bitf a)) := ((At.new w (nb false a)).alloc _).alloc _
  have b2 : At (((w.alloc (.cells (nb false a) 42)).alloc (.cells (nb true b) 42)).alloc (.cells zeroNum 42)) (w.heap.size + 1) (num true (bitf b)) := by
    have := (At.new (w.alloc (.cells (nb false a) 42)) (nb true b)).alloc (.cells zeroNum 42)
    rwa [World.size_alloc] at this
  have b3 : At (((w.alloc (.cells (nb false a) 42)).alloc (.cells (nb true b) 42)).alloc (.cells zeroNum 42)) (w.heap.size + 1 + 1) (num false (fun _ => 0)) := by
    have := At.new ((w.alloc (.cells (nb false a) 42)).alloc (.cells (nb true b) 42)) zeroNum
    rwa [World.size_alloc, World.size_alloc] at this
  have hB : Below w.heap.size w (((w.alloc (.cells (nb false a) 42)).alloc (.cells (nb true b) 42)).alloc (.cells zeroNum 42)) := (((Below.refl _ w).alloc (Nat.le_refl _) _).alloc (by simp) _).alloc (by simp; omega) _
  have e1 : (nb false a)[0]? = some (.bool false) := by simp [nb, num]
  have e2 : (nb true b)[0]? = some (.bool true) := by simp [nb, num]
  have H1 := Lib.hid b1
  have H2 := Lib.hid b2
  have H3 := Lib.hid b3
  have HB := Lib.hid hB
  clear b1 b2 b3 hB
  have hbare : ∀ W : World, Calls Try.prog 26 #[.agg (num false (bitf a)), .agg (num true (bitf b))] W fun e w' => e = .returned (.int .i64 (-1)) ∧ Below W.heap.size W w' := fun W => by
    have k := bare_any false true a b h2 h3 W
    rwa [hst] at k
  have HBA := Lib.hid hbare
  have HL := Lib.hid h1
  have HQ := Lib.hid h2
  have HR := Lib.hid h3
  clear hbare h1 h2 h3 hst
  go_enter Try.func19, Try.ntmps19
  go_wp2_with (first | (refine load_num H1.out rfl rfl rfl ?_) | (refine load_num H2.out rfl rfl rfl ?_))
  refine (HBA.out _).mono ?_
  rintro e w1 ⟨rfl, hB1⟩
  have K1 := Lib.hid (H1.out.below H1.out.lt hB1)
  have K2 := Lib.hid (H2.out.below H2.out.lt hB1)
  have K3 := Lib.hid (H3.out.below H3.out.lt hB1)
  have hBw : Below w.heap.size w w1 := HB.out.trans (hB1.mono HB.out.size)
  clear H1 H2 H3 HB hB1 HBA
  go_wp2_with (first | (refine load_num K1.out rfl rfl rfl ?_) | (refine load_num K2.out rfl rfl rfl ?_))
  refine (minus_any true false b a ⟨HL.out, HR.out⟩ _).mono ?_
  rintro e w2 ⟨rfl, hB2⟩
  have k1 := K1.out.below K1.out.lt hB2
  have k2 := K2.out.below K2.out.lt hB2
  have k3 := K3.out.below K3.out.lt hB2
  have hBx : Below w.heap.size w w2 := hBw.trans (hB2.mono hBw.size)
  obtain ⟨w3, ew, x3, keep, hB3⟩ := fresh w2 false (bitf (b - a))
  have n1 := (keep _ _ k2).neg
  have l3 := keep _ _ k3
  have hlt := k3.lt
  have hB4 : Below w.heap.size w w3 := hBx.trans (hB3.mono hBx.size)
  have c2 := x3.neg
  have f2 := x3.free 0
  have HX := Lib.hid (At.new w2 zeroNum)
  have HW := Lib.hid ew
  have HX2 := Lib.hid (x3.setNeg true)
  have HK3 := Lib.hid (l3.other (.bool true) (a := ⟨w2.heap.size, 0, none⟩) (by dsimp only; omega))
  clear k1 k2 k3 K1 K2 K3 hB2 hBw ew x3 keep l3 hB3
  go_wp2_with (first | (refine store_num (f' := fun _ => 0) HX.out rfl rfl rfl rfl ?_; rw [HW.out]) | (refine load_num HX2.out rfl rfl rfl ?_) | (refine store_num HK3.out rfl rfl rfl rfl ?_))
  exact bodyPost_ret (v := .agg (nb true (b - a))) (results_cell_row rfl _ _ (w.heap.size + 1 + 1) _ _ _ _ rfl HK3.out.row Try.underlying42 rfl (size42 _ _)) rfl ⟨rfl, below_row (hB4.setCell (p := ⟨w2.heap.size, 0, none⟩) (by dsimp only; omega) _) (by omega) _⟩
/-- A whole number as the document's own: its sign, and its bits without it. -/
def sgn (x : Int) : Array Value := nb (decide (x < 0)) x.natAbs
theorem sgn_neg {x : Int} (h : x < 0) : sgn x = nb true x.natAbs := by rw [sgn, decide_eq_true h]
theorem sgn_pos {x : Int} (h : 0 ≤ x) : sgn x = nb false x.natAbs := by rw [sgn, decide_eq_false (by omega)]
theorem stand_gt {a b : Nat} (h : b < a) : stand a b = 1 := by rw [stand, if_neg (by omega), if_neg (by omega)]
theorem stand_eq {a b : Nat} (h : a = b) : stand a b = 0 := by rw [stand, if_neg (by omega), if_pos h]
theorem stand_lt {a b : Nat} (h : a < b) : stand a b = -1 := by rw [stand, if_pos h]
theorem rsum_any (x y : Int) (h : x.natAbs + y.natAbs < 2 ^ 200) (w : World) :
    Calls Try.prog 19 #[.agg (sgn x), .agg (sgn y)] w fun e w' => e = .returned (.agg (sgn (x + y))) ∧ Below w.heap.size w w' := by
  have hx : x.natAbs < 2 ^ 200 := by omega
  have hy : y.natAbs < 2 ^ 200 := by omega
  rcases Int.lt_or_le x 0 with h1 | h1 <;> rcases Int.lt_or_le y 0 with h2 | h2
  · rw [sgn_neg h1, sgn_neg h2, sgn_neg (show x + y < 0 by omega), show (x + y).natAbs = x.natAbs + y.natAbs by omega]
    exact rsum_same true _ _ h w
  · rw [sgn_neg h1, sgn_pos h2]
    rcases Nat.lt_trichotomy x.natAbs y.natAbs with hc | hc | hc
    · rw [sgn_pos (show 0 ≤ x + y by omega), show (x + y).natAbs = y.natAbs - x.natAbs by omega]
      exact rsum_true_lt _ _ (stand_lt hc) (by omega) hx hy w
    · rw [sgn_pos (show 0 ≤ x + y by omega), show (x + y).natAbs = x.natAbs - y.natAbs by omega]
      exact rsum_true_eq _ _ (stand_eq hc) (by omega) hx hy w
    · rw [sgn_neg (show x + y < 0 by omega), show (x + y).natAbs = x.natAbs - y.natAbs by omega]
      exact rsum_true_gt _ _ (stand_gt hc) (by omega) hx hy w
  · rw [sgn_pos h1, sgn_neg h2]
    rcases Nat.lt_trichotomy x.natAbs y.natAbs with hc | hc | hc
    · rw [sgn_neg (show x + y < 0 by omega), show (x + y).natAbs = y.natAbs - x.natAbs by omega]
      exact rsum_false_lt _ _ (stand_lt hc) (by omega) hx hy w
    · rw [sgn_pos (show 0 ≤ x + y by omega), show (x + y).natAbs = x.natAbs - y.natAbs by omega]
      exact rsum_false_eq _ _ (stand_eq hc) (by omega) hx hy w
    · rw [sgn_pos (show 0 ≤ x + y by omega), show (x + y).natAbs = x.natAbs - y.natAbs by omega]
      exact rsum_false_gt _ _ (stand_gt hc) (by omega) hx hy w
  · rw [sgn_pos h1, sgn_pos h2, sgn_pos (show 0 ≤ x + y by omega), show (x + y).natAbs = x.natAbs + y.natAbs by omega]
    exact rsum_same false _ _ h w
end Go.Proofs.Ytmkmpkajcjdfaaa
