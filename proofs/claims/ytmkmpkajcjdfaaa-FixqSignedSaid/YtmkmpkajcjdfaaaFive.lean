/- The five numbers that the document's Floor keeps in memory, and how they stand behind each of its steps. -/
import Derived.Test.YtmkmpkajcjdfaaaParts
import Derived.Test.YtmkmpkajcjdfaaaTimes
import Derived.Test.YtmkmpkajcjdfaaaInt
set_option linter.unusedVariables false
namespace Go.Proofs.Ytmkmpkajcjdfaaa
open Go.RowKit
/-- The two numbers, quotient, rest and nought, each in its block; what lay before lies as it did. -/
structure Five (w W : World) (bx bt bq br bz : Nat) (P S : Bool) (X Y : Nat) (nq : Bool) (Qv : Nat) (nr : Bool) (Rv : Nat) : Prop where
  x : At W bx (num P (bitf X))
  y : At W bt (num S (bitf Y))
  q : At W bq (num nq (bitf Qv))
  r : At W br (num nr (bitf Rv))
  z : At W bz (num false (fun _ => 0))
  o1 : w.heap.size ≤ bx
  o2 : bx < bt
  o3 : bt < bq
  o4 : bq < br
  o5 : br < bz
  b : Below w.heap.size w W
section
variable {w W : World} {bx bt bq br bz : Nat} {P S : Bool} {X Y : Nat} {nq : Bool} {Qv : Nat} {nr : Bool} {Rv : Nat}
theorem Five.below (h : Five w W bx bt bq br bz P S X Y nq Qv nr Rv) {W' : World} (hB : Below W.heap.size W W') : Five w W' bx bt bq br bz P S X Y nq Qv nr Rv :=
  ⟨h.x.below h.x.lt hB, h.y.below h.y.lt hB, h.q.below h.q.lt hB, h.r.below h.r.lt hB, h.z.below h.z.lt hB, h.o1, h.o2, h.o3, h.o4, h.o5, h.b.trans (hB.mono h.b.size)⟩
theorem Five.drew (h : Five w W bx bt bq br bz P S X Y nq Qv nr Rv) : Five w W.drew bx bt bq br bz P S X Y nq Qv nr Rv :=
  ⟨h.x, h.y, h.q, h.r, h.z, h.o1, h.o2, h.o3, h.o4, h.o5, h.b.drew⟩
theorem Five.setQ (h : Five w W bx bt bq br bz P S X Y nq Qv nr Rv) (n : Bool) (v : Nat) : Five w (W.setRow bq (num n (bitf v))) bx bt bq br bz P S X Y n v nr Rv := by
  have := h.o1; have := h.o2; have := h.o3; have := h.o4; have := h.o5
  exact ⟨h.x.rowOther _ (by omega), h.y.rowOther _ (by omega), h.q.row, h.r.rowOther _ (by omega), h.z.rowOther _ (by omega), h.o1, h.o2, h.o3, h.o4, h.o5, below_row h.b (by omega) _⟩
theorem Five.setR (h : Five w W bx bt bq br bz P S X Y nq Qv nr Rv) (n : Bool) (v : Nat) : Five w (W.setRow br (num n (bitf v))) bx bt bq br bz P S X Y nq Qv n v := by
  have := h.o1; have := h.o2; have := h.o3; have := h.o4; have := h.o5
  exact ⟨h.x.rowOther _ (by omega), h.y.rowOther _ (by omega), h.q.rowOther _ (by omega), h.r.row, h.z.rowOther _ (by omega), h.o1, h.o2, h.o3, h.o4, h.o5, below_row h.b (by omega) _⟩
theorem Five.negQ (h : Five w W bx bt bq br bz P S X Y nq Qv nr Rv) (n : Bool) : Five w (W.setCell ⟨bq, 0, none⟩ (.bool n)) bx bt bq br bz P S X Y n Qv nr Rv := by
  have := h.o1; have := h.o2; have := h.o3; have := h.o4; have := h.o5
  exact ⟨h.x.other _ (by dsimp only; omega), h.y.other _ (by dsimp only; omega), h.q.setNeg n, h.r.other _ (by dsimp only; omega), h.z.other _ (by dsimp only; omega), h.o1, h.o2, h.o3, h.o4, h.o5, h.b.setCell (p := ⟨bq, 0, none⟩) (by dsimp only; omega) _⟩
theorem Five.negR (h : Five w W bx bt bq br bz P S X Y nq Qv nr Rv) (n : Bool) : Five w (W.setCell ⟨br, 0, none⟩ (.bool n)) bx bt bq br bz P S X Y nq Qv n Rv := by
  have := h.o1; have := h.o2; have := h.o3; have := h.o4; have := h.o5
  exact ⟨h.x.other _ (by dsimp only; omega), h.y.other _ (by dsimp only; omega), h.q.other _ (by dsimp only; omega), h.r.setNeg n, h.z.other _ (by dsimp only; omega), h.o1, h.o2, h.o3, h.o4, h.o5, h.b.setCell (p := ⟨br, 0, none⟩) (by dsimp only; omega) _⟩
end
/-- Two new Num variables that are given values at once. -/
theorem fresh2 (w5 : World) (Q R : Nat) : ∃ w6, (((w5.alloc (.cells zeroNum 42)).alloc (.cells zeroNum 42)).setRow w5.heap.size (num false (bitf Q))).setRow (w5.heap.size + 1) (num false (bitf R)) = w6 ∧
    At ((w5.alloc (.cells zeroNum 42)).alloc (.cells zeroNum 42)) w5.heap.size (num false (fun _ => 0)) ∧
    At (((w5.alloc (.cells zeroNum 42)).alloc (.cells zeroNum 42)).setRow w5.heap.size (num false (bitf Q))) (w5.heap.size + 1) (num false (fun _ => 0)) ∧
    At w6 w5.heap.size (num false (bitf Q)) ∧ At w6 (w5.heap.size + 1) (num false (bitf R)) ∧ (∀ b cs, At w5 b cs → At w6 b cs) ∧ Below w5.heap.size w5 w6 := by
  have a1 : At ((w5.alloc (.cells zeroNum 42)).alloc (.cells zeroNum 42)) w5.heap.size (num false (fun _ => 0)) := (At.new w5 zeroNum).alloc _
  have a2 : At ((w5.alloc (.cells zeroNum 42)).alloc (.cells zeroNum 42)) (w5.heap.size + 1) (num false (fun _ => 0)) := by
    have := At.new (w5.alloc (.cells zeroNum 42)) zeroNum
    rwa [World.size_alloc] at this
  refine ⟨_, rfl, a1, a2.rowOther _ (by omega), a1.row.rowOther _ (by omega), (a2.rowOther _ (by omega)).row, fun b cs h => ?_, ?_⟩
  · have := h.lt
    exact (((h.alloc _).alloc _).rowOther _ (by omega)).rowOther _ (by omega)
  · exact below_row (below_row (((Below.refl _ w5).alloc (Nat.le_refl _) _).alloc (by simp) _) (Nat.le_refl _) _) (by omega) _
theorem bare_one (n : Bool) (v : Nat) (h : v < 2 ^ 200) (h0 : 0 < v) (W : World) : Calls Try.prog 26 #[.agg (num n (bitf v)), .agg (num false (fun _ => 0))] W fun e w' => e = .returned (.int .i64 1) ∧ Below W.heap.size W w' := by
  have k := bare_any n false v 0 h (by omega) W
  rw [stand_gt h0, nb_zero] at k
  exact k
theorem bare_nought (n : Bool) (v : Nat) (h0 : v = 0) (W : World) : Calls Try.prog 26 #[.agg (num n (bitf v)), .agg (num false (fun _ => 0))] W fun e w' => e = .returned (.int .i64 0) ∧ Below W.heap.size W w' := by
  have k := bare_any n false v 0 (by omega) (by omega) W
  rw [stand_eq h0, nb_zero] at k
  exact k
end Go.Proofs.Ytmkmpkajcjdfaaa
