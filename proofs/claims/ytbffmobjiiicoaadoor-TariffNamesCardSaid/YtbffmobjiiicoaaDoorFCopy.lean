/- Copy; new purses. -/
import Derived.Test.YtbffmobjiiicoaaDoorFPay
import Derived.LoopTactic
set_option linter.unusedVariables false
namespace Go.Proofs.YtbffmobjiiicoaaDoor
open Go.RowKit
def zeroP : Array Value := restC (fun _ => 0)
theorem infoP : (Tryd.prog.info? 54).map (fun i => (i.zero, i.size)) = some (some (.agg zeroP), 512) := by kernel_rfl
theorem sizeP (f : Nat → Int) : (Tryd.prog.info? 54).map (·.size) = some (restC f).size := by
  rw [restC_size]; exact (zero_of_info infoP).2
theorem builtP : Tryd.prog.built 54 [] = some zeroP := by kernel_rfl
/-- 'tariff.Purse{}'. -/
theorem build_purse {ops : Array Oper} {rest : List Oper} {o : Oper} {a : Act} {w : World} {Q : Exit → Act → World → Prop}
    (hgd : o.guard = none) (ho : o.op = .build 54 #[]) (h : wpList Tryd.prog ops Q rest (a.put o.dst (.agg zeroP)) w) : wpList Tryd.prog ops Q (o :: rest) a w := by
  have e : ((#[] : Array (Nat × Operand)).map fun (i, x) => (i, a.eval x)).toList = [] := by simp
  refine wpList_build hgd 54 #[] ho ?_ ?_
  · rw [e, builtP]; rfl
  · rw [e, builtP]; exact h
theorem load_purse {ops : Array Oper} {rest : List Oper} {o : Oper} {a : Act} {w : World} {Q : Exit → Act → World → Prop} {x : Operand} {g : Nat} {f : Nat → Int} (hg : PAt 54 w g f)
    (hgd : o.guard = none) (ho : o.op = .load 54 x) (hx : a.eval x = .pointer (some ⟨g, 0, none⟩))
    (h : wpList Tryd.prog ops Q rest (a.put o.dst (.agg (restC f))) w) : wpList Tryd.prog ops Q (o :: rest) a w :=
  wpList_load_row hgd 54 x ho g hx _ _ _ _ hg Tryd.underlying54 rfl (sizeP f) h
theorem store_purse {ops : Array Oper} {rest : List Oper} {o : Oper} {a : Act} {w : World} {Q : Exit → Act → World → Prop} {x y : Operand} {g : Nat} {f f' : Nat → Int} (hg : PAt 54 w g f')
    (hgd : o.guard = none) (ho : o.op = .store 54 x y) (hx : a.eval x = .pointer (some ⟨g, 0, none⟩)) (hy : a.eval y = .agg (restC f))
    (h : wpList Tryd.prog ops Q rest (a.put o.dst undef) (w.setRow g (restC f))) : wpList Tryd.prog ops Q (o :: rest) a w :=
  wpList_store_row hgd 54 x y ho g (restC f) hx hy _ _ hg (sizeP f) (by rw [restC_size, restC_size]) (rest_one f) h
set_option maxRecDepth 10000 in
theorem copy_any (B : Nat) (f : Nat → Int) (w : World) (hP : PAt 54 w B f) :
    Calls Tryd.prog 16 #[.pointer (some ⟨B, 0, none⟩)] w fun e w' => e = .returned (.pointer (some ⟨w.heap.size, 0, none⟩)) ∧ PAt 54 w' w.heap.size f ∧ Below w.heap.size w w' := by
  have hz := (zero_of_info infoP).1
  have HP := Lib.hid hP
  have KN := Lib.hid (PAt.new w 54 (fun _ => 0))
  have HE := Lib.hid (KN.out.row (cs := f))
  have HB := Lib.hid (show Below w.heap.size w ((w.alloc (.cells zeroP 54)).setRow w.heap.size (restC f)) from ⟨rfl, rfl, rfl, by simp, fun k hk => (setRow_other _ _ k _ (by omega)).trans (Below.heap_alloc w _ k hk)⟩)
  clear hP
  go_enter Tryd.func16, Tryd.ntmps16
  go_wp2_with (first | (refine load_purse HP.out rfl rfl rfl ?_) | (refine store_purse KN.out rfl rfl rfl rfl ?_))
  go_ret
  exact ⟨rfl, HE.out, HB.out⟩
end Go.Proofs.YtbffmobjiiicoaaDoor
