/- Three operations that may come up; what stands behind some of the operations of a region that makes two numbers of the document. -/
import Derived.Test.YtbffmobjiiicoaaRRegL
import Derived.Test.YtbffmobjiiicoaaJF1
set_option linter.unusedVariables false
namespace Go.Proofs.Ytbffmobjiiicoaa
open Go.RowKit Go.Proofs.Ytbffmobjiiicoaa.F1
section
variable {P : Program} {md : Region.Mode} {ops : Array Oper} {Q : Exit → Act → World → Prop} {S : World → Prop} {z : Nat}
theorem threeL {i j k : Nat} {o o' o'' : Oper} {m : Nat} {listed : Array Bool} {a : Act} {w : World} (hi : ops[i]? = some o) (hj : ops[j]? = some o') (hk : ops[k]? = some o'') (hr : Region.ready md ops listed = [i, j, k]) (hg : o.guard = none) (hg' : o'.guard = none) (hg'' : o''.guard = none)
    (h : o.wp P a w (fun a' w' => (i ≠ z → S w') ∧ AnyL P md ops Q S z m (listed.setIfInBounds i true) a' w') Q) (h' : o'.wp P a w (fun a' w' => (j ≠ z → S w') ∧ AnyL P md ops Q S z m (listed.setIfInBounds j true) a' w') Q)
    (h'' : o''.wp P a w (fun a' w' => (k ≠ z → S w') ∧ AnyL P md ops Q S z m (listed.setIfInBounds k true) a' w') Q) : AnyL P md ops Q S z (m + 1) listed a w := by
  refine ⟨fun h0 => (by rw [hr] at h0; cases h0), fun l hl => ?_⟩
  rw [hr] at hl
  rcases (by simpa using hl : l = i ∨ l = j ∨ l = k) with rfl | rfl | rfl
  · unfold wpOp
    simp only [hi]
    rw [if_pos (by simp [Region.wanted, hg])]
    exact .inl h
  · unfold wpOp
    simp only [hj]
    rw [if_pos (by simp [Region.wanted, hg'])]
    exact .inl h'
  · unfold wpOp
    simp only [hk]
    rw [if_pos (by simp [Region.wanted, hg''])]
    exact .inl h''
end
theorem cutR {P : Program} {c : Code} {Q : Exit → Act → World → Prop} {a : Act} {w : World} (R : Act → Exit → Act → World → Prop) (h1 : c.wp P (R a) a w) (h2 : ∀ e a' w', R a e a' w' → Q e a' w') : c.wp P Q a w := Code.wp_mono h2 h1
theorem run_load_num {o : Oper} {a : Act} {W : World} {x : Operand} {g : Nat} {neg : Bool} {f : Nat → Int} (h : At W g (num neg f)) (ho : o.op = .load 66 x) (hx : a.eval x = .pointer (some ⟨g, 0, none⟩)) :
    (execOp a.eval o).run Try.prog W = .ok (.value (.agg (num neg f))) W := by
  unfold execOp
  simp only [ho, hx, Instr.loadAt, Instr.sureAddr, Sem.run_bind, Sem.run_pure, Result.andThen_ok, run_loadVar_row W g _ _ _ _ _ h Try.underlying66 rfl (size42 neg f)]
structure RC (B0 : Nat) (W0 X : World) (s7 s8 : Option (Nat × Nat)) : Prop where
  below : Below B0 W0 X
  size : B0 ≤ X.heap.size
  h7 : ∀ g q, s7 = some (g, q) → B0 ≤ g ∧ At X g (nb false q)
  h8 : ∀ g q, s8 = some (g, q) → B0 ≤ g ∧ At X g (nb false q)
  ne : ∀ g q g' q', s7 = some (g, q) → s8 = some (g', q') → g ≠ g'
section
variable {B0 : Nat} {W0 X : World} {s7 s8 : Option (Nat × Nat)}
theorem RC.call (h : RC B0 W0 X s7 s8) {X' : World} (hB : Below X.heap.size X X') : RC B0 W0 X' s7 s8 :=
  ⟨h.below.trans (hB.mono h.size), Nat.le_trans h.size hB.size, fun g q e => ⟨(h.h7 g q e).1, (h.h7 g q e).2.below (h.h7 g q e).2.lt hB⟩, fun g q e => ⟨(h.h8 g q e).1, (h.h8 g q e).2.below (h.h8 g q e).2.lt hB⟩, h.ne⟩
theorem zero_nb : zeroNum = nb false 0 := num_congr fun j _ => by simp [bitf]
theorem RC.seven (h : RC B0 W0 X none s8) : RC B0 W0 (X.alloc (.cells zeroNum 66)) (some (X.heap.size, 0)) s8 :=
  { h.call ((Below.refl _ X).alloc (Nat.le_refl _) (.cells zeroNum 66)) with
    h7 := fun g q e => by cases e; exact ⟨h.size, zero_nb ▸ At.new X zeroNum⟩
    ne := fun g q g' q' e e' => by cases e; have := (h.h8 g' q' e').2.lt; omega }
theorem RC.eight (h : RC B0 W0 X s7 none) : RC B0 W0 (X.alloc (.cells zeroNum 66)) s7 (some (X.heap.size, 0)) :=
  { h.call ((Below.refl _ X).alloc (Nat.le_refl _) (.cells zeroNum 66)) with
    h8 := fun g q e => by cases e; exact ⟨h.size, zero_nb ▸ At.new X zeroNum⟩
    ne := fun g q g' q' e e' => by cases e'; have := (h.h7 g q e).2.lt; omega }
theorem RC.set7 {g g' q q' n : Nat} (h : RC B0 W0 X (some (g, q)) (some (g', q'))) : RC B0 W0 (X.setRow g (nb false n)) (some (g, n)) (some (g', q')) :=
  ⟨below_row h.below (h.h7 g q rfl).1 _, by simpa using h.size, fun k m e => by cases e; exact ⟨(h.h7 g q rfl).1, (h.h7 g q rfl).2.row⟩,
    fun k m e => by cases e; exact ⟨(h.h8 g' q' rfl).1, (h.h8 g' q' rfl).2.rowOther _ (h.ne g q g' q' rfl rfl).symm⟩, fun k m k' m' e e' => by cases e; cases e'; exact h.ne g q g' q' rfl rfl⟩
theorem RC.set8 {g g' q q' n : Nat} (h : RC B0 W0 X (some (g, q)) (some (g', q'))) : RC B0 W0 (X.setRow g' (nb false n)) (some (g, q)) (some (g', n)) :=
  ⟨below_row h.below (h.h8 g' q' rfl).1 _, by simpa using h.size, fun k m e => by cases e; exact ⟨(h.h7 g q rfl).1, (h.h7 g q rfl).2.rowOther _ (h.ne g q g' q' rfl rfl)⟩,
    fun k m e => by cases e; exact ⟨(h.h8 g' q' rfl).1, (h.h8 g' q' rfl).2.row⟩, fun k m k' m' e e' => by cases e; cases e'; exact h.ne g q g' q' rfl rfl⟩
variable {o : Oper} {a : Act} {K : Act → World → Prop} {Q : Exit → Act → World → Prop}
theorem RC.docall (h : RC B0 W0 X s7 s8) {f : FuncId} {args : Array Value} {v : Value} (hrun : (execOp a.eval o).run Try.prog X = .ok (.enter f args) X)
    (hc : Calls Try.prog f args X fun e w' => e = .returned v ∧ Below X.heap.size X w') (hk : ∀ X', RC B0 W0 X' s7 s8 → K (a.put o.dst v) X') : o.wp Try.prog a X K Q :=
  wp_by_call hrun (hc.mono fun e w' ⟨h1, h2⟩ => ⟨v, h1, hk _ (h.call h2)⟩)
theorem RC.doseven (h : RC B0 W0 X none s8) (hrun : (execOp a.eval o).run Try.prog X = .ok (.value (.pointer (some ⟨X.heap.size, 0, none⟩))) (X.alloc (.cells zeroNum 66)))
    (hk : ∀ g X', RC B0 W0 X' (some (g, 0)) s8 → K (a.put o.dst (.pointer (some ⟨g, 0, none⟩))) X') : o.wp Try.prog a X K Q := wp_by_run hrun (hk _ _ h.seven)
theorem RC.doeight (h : RC B0 W0 X s7 none) (hrun : (execOp a.eval o).run Try.prog X = .ok (.value (.pointer (some ⟨X.heap.size, 0, none⟩))) (X.alloc (.cells zeroNum 66)))
    (hk : ∀ g X', RC B0 W0 X' s7 (some (g, 0)) → K (a.put o.dst (.pointer (some ⟨g, 0, none⟩))) X') : o.wp Try.prog a X K Q := wp_by_run hrun (hk _ _ h.eight)
theorem RC.dost7 {g g' q q' n : Nat} (h : RC B0 W0 X (some (g, q)) (some (g', q'))) {x y : Operand} (ho : o.op = .store 66 x y) (hx : a.eval x = .pointer (some ⟨g, 0, none⟩)) (hy : a.eval y = .agg (nb false n))
    (hk : ∀ X', RC B0 W0 X' (some (g, n)) (some (g', q')) → K (a.put o.dst undef) X') : o.wp Try.prog a X K Q :=
  wp_store_row 66 x y ho g (nb false n) hx hy _ _ (h.h7 g q rfl).2 (size42 false _) (by rw [nb, nb, num_size, num_size]) (num_one false _) (hk _ h.set7)
theorem RC.dost8 {g g' q q' n : Nat} (h : RC B0 W0 X (some (g, q)) (some (g', q'))) {x y : Operand} (ho : o.op = .store 66 x y) (hx : a.eval x = .pointer (some ⟨g', 0, none⟩)) (hy : a.eval y = .agg (nb false n))
    (hk : ∀ X', RC B0 W0 X' (some (g, q)) (some (g', n)) → K (a.put o.dst undef) X') : o.wp Try.prog a X K Q :=
  wp_store_row 66 x y ho g' (nb false n) hx hy _ _ (h.h8 g' q' rfl).2 (size42 false _) (by rw [nb, nb, num_size, num_size]) (num_one false _) (hk _ h.set8)
end
end Go.Proofs.Ytbffmobjiiicoaa
