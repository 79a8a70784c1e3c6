/- Two holidays, compared. -/
import Derived.Test.YtgedcfgmfhlkdaaDoorHHol
import Derived.Laws.StructEq
set_option linter.unusedVariables false
set_option linter.unusedSimpArgs false
namespace Go.Proofs.YtgedcfgmfhlkdaaDoor
open Go.RowKit Go.Shelf
def eqHo (a b : Ho) : Bool := (a.k == b.k) && ((a.y == b.y) && ((a.m == b.m) && ((a.d == b.d) && ((a.w == b.w) && (a.n == b.n)))))
theorem ho_fields : Tryd.prog.underlying 50 = some (.struct (Tryd.prog.fieldsOf 50)) := by kernel_rfl
theorem ho_stood : Tryd.prog.stoodInHeld 50 = false := by kernel_rfl
theorem eqF_cons {P : Program} {w : World} {d : Nat} {xs ys : Array Value} {f : Field} {fs : List Field} {a b : Int} (hn : f.name ≠ "_") (hp : (part f.type xs f.offset).run P w = .ok (.int .i64 a) w) (hq : (part f.type ys f.offset).run P w = .ok (.int .i64 b) w) (ht : P.underlying f.type = some (.int .i64)) :
    (Op.eqFields (d + 1) xs ys (f :: fs)).run P w = if (a == b) = true then (Op.eqFields (d + 1) xs ys fs).run P w else .ok false w := by
  rw [Op.eqFields, if_pos hn]
  simp only [Sem.run_bind, hp, hq, Result.andThen_ok, run_equalIn_int w d f.type .i64 .i64 a b ht]
  cases h : (a == b) <;> simp
theorem eqF_nil {P : Program} {w : World} {d : Nat} {xs ys : Array Value} : (Op.eqFields d xs ys []).run P w = .ok true w := by simp [Op.eqFields]
set_option maxRecDepth 100000 in
theorem neq_ho (a b : Ho) (w : World) : (binOp .neq 50 (hoV a) (hoV b)).run Tryd.prog w = .ok (.bool (!eqHo a b)) w := by
  obtain ⟨k, y, m, d, v, n⟩ := a
  obtain ⟨k', y', m', d', v', n'⟩ := b
  have hu := Tryd.underlying50
  have hi := Tryd.underlying3
  have c1 : Tryd.prog.cellsOf 3 = 1 := by kernel_rfl
  rw [run_neq_struct, run_equalIn_struct w 9999 _ _ _ ho_fields ho_stood]
  simp only [Program.fieldsOf, hu]
  rw [eqF_cons (a := k) (b := k') (by decide) (by simp [go_sem]) (by simp [go_sem]) hi, eqF_cons (a := y) (b := y') (by decide) (by simp [go_sem]) (by simp [go_sem]) hi, eqF_cons (a := m) (b := m') (by decide) (by simp [go_sem]) (by simp [go_sem]) hi,
    eqF_cons (a := d) (b := d') (by decide) (by simp [go_sem]) (by simp [go_sem]) hi, eqF_cons (a := v) (b := v') (by decide) (by simp [go_sem]) (by simp [go_sem]) hi, eqF_cons (a := n) (b := n') (by decide) (by simp [go_sem]) (by simp [go_sem]) hi, eqF_nil]
  unfold eqHo
  simp only []
  cases (k == k') <;> cases (y == y') <;> cases (m == m') <;> cases (d == d') <;> cases (v == v') <;> cases (n == n') <;> rfl
end Go.Proofs.YtgedcfgmfhlkdaaDoor
