/- The contract of the document's Less: the difference of two signed numbers. -/
import Derived.Test.YtmkmpkajcjdfaaaRefSum
set_option linter.unusedVariables false
namespace Go.Proofs.Ytmkmpkajcjdfaaa
open Go.RowKit
set_option maxRecDepth 10000 in
set_option maxHeartbeats 1000000 in
theorem less_zero (x z : Int) (b : Nat) (hst : stand b 0 = 0) (hzr : sgn z = nb false b) (hb : b < 2 ^ 200) (hxz : x.natAbs + z.natAbs < 2 ^ 200) (w : World) :
    Calls Try.prog 21 #[.agg (sgn x), .agg (nb false b)] w fun e w' => e = .returned (.agg (sgn (x + z))) ∧ Below w.heap.size w w' := by
  have hz := (zero_of_info info42).1
  have b1 : At (((w.alloc (.cells (sgn x) 42)).alloc (.cells (nb false b) 42)).alloc (.cells zeroNum 42)) w.heap.size (num (decide (x < 0)) (bitf x.natAbs)) := ((At.new w (sgn x)).alloc _).alloc _
  have b2 : At (((w.alloc (.cells (sgn x) 42)).alloc (.cells (nb false b) 42)).alloc (.cells zeroNum 42)) (w.heap.size + 1) (num false (bitf b)) := by
    have := (At.new (w.alloc (.cells (sgn x) 42)) (nb false b)).alloc (.cells zeroNum 42)
    rwa [World.size_alloc] at this
  have b3 : At (((w.alloc (.cells (sgn x) 42)).alloc (.cells (nb false b) 42)).alloc (.cells zeroNum 42)) (w.heap.size + 1 + 1) (num false (fun _ => 0)) := by
    have := At.new ((w.alloc (.cells (sgn x) 42)).alloc (.cells (nb false b) 42)) zeroNum
    rwa [World.size_alloc, World.size_alloc] at this
  have hB : Below w.heap.size w (((w.alloc (.cells (sgn x) 42)).alloc (.cells (nb false b) 42)).alloc (.cells zeroNum 42)) := (((Below.refl _ w).alloc (Nat.le_refl _) _).alloc (by simp) _).alloc (by simp; omega) _
  obtain ⟨w1, ew, x1, keep, hB1⟩ := fresh (((w.alloc (.cells (sgn x) 42)).alloc (.cells (nb false b) 42)).alloc (.cells zeroNum 42)) false (fun _ => 0)
  have k1 := keep _ _ b1
  have k2 := keep _ _ b2
  have k3 := keep _ _ b3
  simp only [World.size_alloc] at ew x1 hB1
  have hB2 : Below w.heap.size w w1 := hB.trans (hB1.mono (by omega))
  have HX : Hid (At ((((w.alloc (.cells (sgn x) 42)).alloc (.cells (nb false b) 42)).alloc (.cells zeroNum 42)).alloc (.cells zeroNum 42)) (w.heap.size + 1 + 1 + 1) (num false (fun _ => 0))) := by
    have := At.new (((w.alloc (.cells (sgn x) 42)).alloc (.cells (nb false b) 42)).alloc (.cells zeroNum 42)) zeroNum
    simp only [World.size_alloc] at this
    exact this
  have hbare : ∀ W : World, Calls Try.prog 26 #[.agg (num false (bitf b)), .agg (num false (fun _ => 0))] W fun e w' => e = .returned (.int .i64 0) ∧ Below W.heap.size W w' := fun W => by
    have k := bare_any false false b 0 hb (by omega) W
    rw [hst] at k
    have e0 : nb false 0 = num false (fun _ => 0) := num_congr fun j _ => by simp [bitf]
    rw [e0] at k
    exact k
  have HBA := Lib.hid hbare
  have HW := Lib.hid ew
  have K1 := Lib.hid k1
  have K2 := Lib.hid k2
  have K3 := Lib.hid k3
  have KX := Lib.hid x1
  have HZ := Lib.hid hzr
  have HXZ := Lib.hid hxz
  clear b1 b2 b3 hB ew x1 keep k1 k2 k3 hB1 hbare hst hb hzr hxz
  go_enter Try.func21, Try.ntmps21
  go_wp2_with (first | (refine build_num rfl rfl ?_) | (refine store_num (neg := false) (f := fun _ => 0) HX.out rfl rfl rfl rfl ?_; rw [HW.out]) | (refine load_num K2.out rfl rfl rfl ?_) | (refine load_num KX.out rfl rfl rfl ?_))
  refine (HBA.out _).mono ?_
  rintro e w2 ⟨rfl, hB3⟩
  have k1 := K1.out.below K1.out.lt hB3
  have k2 := K2.out.below K2.out.lt hB3
  have k3 := K3.out.below K3.out.lt hB3
  have hB4 := hB2.trans (hB3.mono hB2.size)
  have c2 := k2.neg
  have f2 := k2.free 0
  have L1 := Lib.hid (k1.other (.bool false) (a := ⟨w.heap.size + 1, 0, none⟩) (by dsimp only; omega))
  have L2 := Lib.hid (k2.setNeg false)
  have L3 := Lib.hid (k3.other (.bool false) (a := ⟨w.heap.size + 1, 0, none⟩) (by dsimp only; omega))
  have hB5 := Lib.hid (hB4.setCell (p := ⟨w.heap.size + 1, 0, none⟩) (by dsimp only; omega) (.bool false))
  clear k1 k2 k3 K1 K2 K3 KX HBA HX HW hB2 hB3 hB4
  go_wp2_with (first | (refine load_num L1.out rfl rfl rfl ?_) | (refine load_num L2.out rfl rfl rfl ?_))
  have hsum : ∀ W : World, Calls Try.prog 19 #[.agg (num (decide (x < 0)) (bitf x.natAbs)), .agg (num false (bitf b))] W fun e w' => e = .returned (.agg (sgn (x + z))) ∧ Below W.heap.size W w' := fun W => by
    have k := rsum_any x z HXZ.out W
    rw [HZ.out] at k
    exact k
  refine (hsum _).mono ?_
  rintro e w3 ⟨rfl, hB6⟩
  have M3 := Lib.hid (L3.out.below L3.out.lt hB6)
  have hB7 := hB5.out.trans (hB6.mono hB5.out.size)
  clear hsum L1 L2 L3 hB5 hB6
  go_wp2_with (refine store_num (neg := decide (x + z < 0)) (f := bitf (x + z).natAbs) M3.out rfl rfl rfl rfl ?_)
  exact bodyPost_ret (v := .agg (sgn (x + z))) (results_cell_row rfl _ _ (w.heap.size + 1 + 1) _ _ _ _ rfl M3.out.row Try.underlying42 rfl (size42 _ _)) rfl ⟨rfl, below_row hB7 (by omega) _⟩
set_option maxRecDepth 10000 in
set_option maxHeartbeats 1000000 in
theorem less_pos (x z : Int) (b : Nat) (hst : stand b 0 = 1) (hzr : sgn z = nb true b) (hb : b < 2 ^ 200) (hxz : x.natAbs + z.natAbs < 2 ^ 200) (w : World) :
    Calls Try.prog 21 #[.agg (sgn x), .agg (nb false b)] w fun e w' => e = .returned (.agg (sgn (x + z))) ∧ Below w.heap.size w w' := by
  have hz := (zero_of_info info42).1
  have b1 : At (((w.alloc (.cells (sgn x) 42)).alloc (.cells (nb false b) 42)).alloc (.cells zeroNum 42)) w.heap.size (num (decide (x < 0)) (bitf x.natAbs)) := ((At.new w (sgn x)).alloc _).alloc _
  have b2 : At (((w.alloc (.cells (sgn x) 42)).alloc (.cells (nb false b) 42)).alloc (.cells zeroNum 42)) (w.heap.size + 1) (num false (bitf b)) := by
    have := (At.new (w.alloc (.cells (sgn x) 42)) (nb false b)).alloc (.cells zeroNum 42)
    rwa [World.size_alloc] at this
  have b3 : At (((w.alloc (.cells (sgn x) 42)).alloc (.cells (nb false b) 42)).alloc (.cells zeroNum 42)) (w.heap.size + 1 + 1) (num false (fun _ => 0)) := by
    have := At.new ((w.alloc (.cells (sgn x) 42)).alloc (.cells (nb false b) 42)) zeroNum
    rwa [World.size_alloc, World.size_alloc] at this
  have hB : Below w.heap.size w (((w.alloc (.cells (sgn x) 42)).alloc (.cells (nb false b) 42)).alloc (.cells zeroNum 42)) := (((Below.refl _ w).alloc (Nat.le_refl _) _).alloc (by simp) _).alloc (by simp; omega) _
  obtain ⟨w1, ew, x1, keep, hB1⟩ := fresh (((w.alloc (.cells (sgn x) 42)).alloc (.cells (nb false b) 42)).alloc (.cells zeroNum 42)) false (fun _ => 0)
  have k1 := keep _ _ b1
  have k2 := keep _ _ b2
  have k3 := keep _ _ b3
  simp only [World.size_alloc] at ew x1 hB1
  have hB2 : Below w.heap.size w w1 := hB.trans (hB1.mono (by omega))
  have HX : Hid (At ((((w.alloc (.cells (sgn x) 42)).alloc (.cells (nb false b) 42)).alloc (.cells zeroNum 42)).alloc (.cells zeroNum 42)) (w.heap.size + 1 + 1 + 1) (num false (fun _ => 0))) := by
    have := At.new (((w.alloc (.cells (sgn x) 42)).alloc (.cells (nb false b) 42)).alloc (.cells zeroNum 42)) zeroNum
    simp only [World.size_alloc] at this
    exact this
  have hbare : ∀ W : World, Calls Try.prog 26 #[.agg (num false (bitf b)), .agg (num false (fun _ => 0))] W fun e w' => e = .returned (.int .i64 1) ∧ Below W.heap.size W w' := fun W => by
    have k := bare_any false false b 0 hb (by omega) W
    rw [hst] at k
    have e0 : nb false 0 = num false (fun _ => 0) := num_congr fun j _ => by simp [bitf]
    rw [e0] at k
    exact k
  have HBA := Lib.hid hbare
  have HW := Lib.hid ew
  have K1 := Lib.hid k1
  have K2 := Lib.hid k2
  have K3 := Lib.hid k3
  have KX := Lib.hid x1
  have HZ := Lib.hid hzr
  have HXZ := Lib.hid hxz
  clear b1 b2 b3 hB ew x1 keep k1 k2 k3 hB1 hbare hst hb hzr hxz
  go_enter Try.func21, Try.ntmps21
  go_wp2_with (first | (refine build_num rfl rfl ?_) | (refine store_num (neg := false) (f := fun _ => 0) HX.out rfl rfl rfl rfl ?_; rw [HW.out]) | (refine load_num K2.out rfl rfl rfl ?_) | (refine load_num KX.out rfl rfl rfl ?_))
  refine (HBA.out _).mono ?_
  rintro e w2 ⟨rfl, hB3⟩
  have k1 := K1.out.below K1.out.lt hB3
  have k2 := K2.out.below K2.out.lt hB3
  have k3 := K3.out.below K3.out.lt hB3
  have hB4 := hB2.trans (hB3.mono hB2.size)
  have c2 := k2.neg
  have f2 := k2.free 0
  have L1 := Lib.hid (k1.other (.bool true) (a := ⟨w.heap.size + 1, 0, none⟩) (by dsimp only; omega))
  have L2 := Lib.hid (k2.setNeg true)
  have L3 := Lib.hid (k3.other (.bool true) (a := ⟨w.heap.size + 1, 0, none⟩) (by dsimp only; omega))
  have hB5 := Lib.hid (hB4.setCell (p := ⟨w.heap.size + 1, 0, none⟩) (by dsimp only; omega) (.bool true))
  clear k1 k2 k3 K1 K2 K3 KX HBA HX HW hB2 hB3 hB4
  go_wp2_with (first | (refine load_num L1.out rfl rfl rfl ?_) | (refine load_num L2.out rfl rfl rfl ?_))
  have hsum : ∀ W : World, Calls Try.prog 19 #[.agg (num (decide (x < 0)) (bitf x.natAbs)), .agg (num true (bitf b))] W fun e w' => e = .returned (.agg (sgn (x + z))) ∧ Below W.heap.size W w' := fun W => by
    have k := rsum_any x z HXZ.out W
    rw [HZ.out] at k
    exact k
  refine (hsum _).mono ?_
  rintro e w3 ⟨rfl, hB6⟩
  have M3 := Lib.hid (L3.out.below L3.out.lt hB6)
  have hB7 := hB5.out.trans (hB6.mono hB5.out.size)
  clear hsum L1 L2 L3 hB5 hB6
  go_wp2_with (refine store_num (neg := decide (x + z < 0)) (f := bitf (x + z).natAbs) M3.out rfl rfl rfl rfl ?_)
  exact bodyPost_ret (v := .agg (sgn (x + z))) (results_cell_row rfl _ _ (w.heap.size + 1 + 1) _ _ _ _ rfl M3.out.row Try.underlying42 rfl (size42 _ _)) rfl ⟨rfl, below_row hB7 (by omega) _⟩
set_option maxRecDepth 10000 in
set_option maxHeartbeats 1000000 in
theorem less_neg (x z : Int) (b : Nat) (hst : stand b 0 = 1) (hzr : sgn z = nb false b) (hb : b < 2 ^ 200) (hxz : x.natAbs + z.natAbs < 2 ^ 200) (w : World) :
    Calls Try.prog 21 #[.agg (sgn x), .agg (nb true b)] w fun e w' => e = .returned (.agg (sgn (x + z))) ∧ Below w.heap.size w w' := by
  have hz := (zero_of_info info42).1
  have b1 : At (((w.alloc (.cells (sgn x) 42)).alloc (.cells (nb true b) 42)).alloc (.cells zeroNum 42)) w.heap.size (num (decide (x < 0)) (bitf x.natAbs)) := ((At.new w (sgn x)).alloc _).alloc _
  have b2 : At (((w.alloc (.cells (sgn x) 42)).alloc (.cells (nb true b) 42)).alloc (.cells zeroNum 42)) (w.heap.size + 1) (num true (bitf b)) := by
    have := (At.new (w.alloc (.cells (sgn x) 42)) (nb true b)).alloc (.cells zeroNum 42)
    rwa [World.size_alloc] at this
  have b3 : At (((w.alloc (.cells (sgn x) 42)).alloc (.cells (nb true b) 42)).alloc (.cells zeroNum 42)) (w.heap.size + 1 + 1) (num false (fun _ => 0)) := by
    have := At.new ((w.alloc (.cells (sgn x) 42)).alloc (.cells (nb true b) 42)) zeroNum
    rwa [World.size_alloc, World.size_alloc] at this
  have hB : Below w.heap.size w (((w.alloc (.cells (sgn x) 42)).alloc (.cells (nb true b) 42)).alloc (.cells zeroNum 42)) := (((Below.refl _ w).alloc (Nat.le_refl _) _).alloc (by simp) _).alloc (by simp; omega) _
  obtain ⟨w1, ew, x1, keep, hB1⟩ := fresh (((w.alloc (.cells (sgn x) 42)).alloc (.cells (nb true b) 42)).alloc (.cells zeroNum 42)) false (fun _ => 0)
  have k1 := keep _ _ b1
  have k2 := keep _ _ b2
  have k3 := keep _ _ b3
  simp only [World.size_alloc] at ew x1 hB1
  have hB2 : Below w.heap.size w w1 := hB.trans (hB1.mono (by omega))
  have HX : Hid (At ((((w.alloc (.cells (sgn x) 42)).alloc (.cells (nb true b) 42)).alloc (.cells zeroNum 42)).alloc (.cells zeroNum 42)) (w.heap.size + 1 + 1 + 1) (num false (fun _ => 0))) := by
    have := At.new (((w.alloc (.cells (sgn x) 42)).alloc (.cells (nb true b) 42)).alloc (.cells zeroNum 42)) zeroNum
    simp only [World.size_alloc] at this
    exact this
  have hbare : ∀ W : World, Calls Try.prog 26 #[.agg (num true (bitf b)), .agg (num false (fun _ => 0))] W fun e w' => e = .returned (.int .i64 1) ∧ Below W.heap.size W w' := fun W => by
    have k := bare_any true false b 0 hb (by omega) W
    rw [hst] at k
    have e0 : nb false 0 = num false (fun _ => 0) := num_congr fun j _ => by simp [bitf]
    rw [e0] at k
    exact k
  have HBA := Lib.hid hbare
  have HW := Lib.hid ew
  have K1 := Lib.hid k1
  have K2 := Lib.hid k2
  have K3 := Lib.hid k3
  have KX := Lib.hid x1
  have HZ := Lib.hid hzr
  have HXZ := Lib.hid hxz
  clear b1 b2 b3 hB ew x1 keep k1 k2 k3 hB1 hbare hst hb hzr hxz
  go_enter Try.func21, Try.ntmps21
  go_wp2_with (first | (refine build_num rfl rfl ?_) | (refine store_num (neg := false) (f := fun _ => 0) HX.out rfl rfl rfl rfl ?_; rw [HW.out]) | (refine load_num K2.out rfl rfl rfl ?_) | (refine load_num KX.out rfl rfl rfl ?_))
  refine (HBA.out _).mono ?_
  rintro e w2 ⟨rfl, hB3⟩
  have k1 := K1.out.below K1.out.lt hB3
  have k2 := K2.out.below K2.out.lt hB3
  have k3 := K3.out.below K3.out.lt hB3
  have hB4 := hB2.trans (hB3.mono hB2.size)
  have c2 := k2.neg
  have f2 := k2.free 0
  have L1 := Lib.hid (k1.other (.bool false) (a := ⟨w.heap.size + 1, 0, none⟩) (by dsimp only; omega))
  have L2 := Lib.hid (k2.setNeg false)
  have L3 := Lib.hid (k3.other (.bool false) (a := ⟨w.heap.size + 1, 0, none⟩) (by dsimp only; omega))
  have hB5 := Lib.hid (hB4.setCell (p := ⟨w.heap.size + 1, 0, none⟩) (by dsimp only; omega) (.bool false))
  clear k1 k2 k3 K1 K2 K3 KX HBA HX HW hB2 hB3 hB4
  go_wp2_with (first | (refine load_num L1.out rfl rfl rfl ?_) | (refine load_num L2.out rfl rfl rfl ?_))
  have hsum : ∀ W : World, Calls Try.prog 19 #[.agg (num (decide (x < 0)) (bitf x.natAbs)), .agg (num false (bitf b))] W fun e w' => e = .returned (.agg (sgn (x + z))) ∧ Below W.heap.size W w' := fun W => by
    have k := rsum_any x z HXZ.out W
    rw [HZ.out] at k
    exact k
  refine (hsum _).mono ?_
  rintro e w3 ⟨rfl, hB6⟩
  have M3 := Lib.hid (L3.out.below L3.out.lt hB6)
  have hB7 := hB5.out.trans (hB6.mono hB5.out.size)
  clear hsum L1 L2 L3 hB5 hB6
  go_wp2_with (refine store_num (neg := decide (x + z < 0)) (f := bitf (x + z).natAbs) M3.out rfl rfl rfl rfl ?_)
  exact bodyPost_ret (v := .agg (sgn (x + z))) (results_cell_row rfl _ _ (w.heap.size + 1 + 1) _ _ _ _ rfl M3.out.row Try.underlying42 rfl (size42 _ _)) rfl ⟨rfl, below_row hB7 (by omega) _⟩
theorem less_any (x y : Int) (h : x.natAbs + y.natAbs < 2 ^ 200) (w : World) :
    Calls Try.prog 21 #[.agg (sgn x), .agg (sgn y)] w fun e w' => e = .returned (.agg (sgn (x - y))) ∧ Below w.heap.size w w' := by
  have e : x - y = x + -y := by omega
  rw [e]
  rcases Int.lt_trichotomy y 0 with hy | hy | hy
  · rw [sgn_neg hy]
    exact less_neg x (-y) y.natAbs (stand_gt (by omega)) (by rw [sgn_pos (by omega), Int.natAbs_neg]) (by omega) (by omega) w
  · subst hy
    rw [sgn_pos (show (0 : Int) ≤ 0 by omega)]
    exact less_zero x (-0) (0 : Int).natAbs (stand_eq rfl) (by rw [sgn_pos (by omega), Int.natAbs_neg]) (by simp) (by omega) w
  · rw [sgn_pos (show 0 ≤ y by omega)]
    exact less_pos x (-y) y.natAbs (stand_gt (by omega)) (by rw [sgn_neg (by omega), Int.natAbs_neg]) (by omega) (by omega) w
end Go.Proofs.Ytmkmpkajcjdfaaa
