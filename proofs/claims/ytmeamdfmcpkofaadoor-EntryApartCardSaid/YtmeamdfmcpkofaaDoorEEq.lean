/- Entries compared. -/
import Derived.Test.YtmeamdfmcpkofaaDoorEExec
import Derived.Laws.StructEq
import Derived.ChangeKeysEq
set_option linter.unusedVariables false
set_option linter.unusedSimpArgs false
namespace Go.Proofs.YtmeamdfmcpkofaaDoor
open Go.RowKit Go.Shelf
def fkey (f : Field) : String × TypeId × Nat := (f.name, f.type, f.offset)
theorem fields_cons {fs : List Field} {nm : String} {T : TypeId} {off : Nat} {rest : List (String × TypeId × Nat)} (h : fs.map fkey = (nm, T, off) :: rest) : ∃ f fs', fs = f :: fs' ∧ f.name = nm ∧ f.type = T ∧ f.offset = off ∧ fs'.map fkey = rest := by
  cases fs with
  | nil => cases h
  | cons f fs' =>
    simp only [List.map_cons, List.cons.injEq, fkey, Prod.mk.injEq] at h
    exact ⟨f, fs', rfl, h.1.1, h.1.2.1, h.1.2.2, h.2⟩
theorem eqF_step {d : Nat} {f : Field} {fs : List Field} {xs ys : Array Value} {k : IntKind} {a b : Int} {R : Prop} {w : World} (hn : f.name ≠ "_") (hp : Tryd.prog.plainKey f.type = true) (hu : Tryd.prog.underlying f.type = some (.int k))
    (hx : xs[f.offset]? = some (.int k a)) (hy : ys[f.offset]? = some (.int k b)) (ih : ∃ r : Bool, (Op.eqFields (d + 1) xs ys fs).run Tryd.prog w = .ok r w ∧ (r = true ↔ R)) :
    ∃ r : Bool, (Op.eqFields (d + 1) xs ys (f :: fs)).run Tryd.prog w = .ok r w ∧ (r = true ↔ (a = b ∧ R)) := by
  obtain ⟨r, hr, hi⟩ := ih
  have h1 := run_part_plain (P := Tryd.prog) (w := w) hp hx
  have h2 := run_part_plain (P := Tryd.prog) (w := w) hp hy
  have h3 := run_equalIn_int (P := Tryd.prog) w d f.type k k a b hu
  by_cases e : a = b
  · refine ⟨r, ?_, by simp [e, hi]⟩
    have hb : (a == b) = true := by simpa using e
    simp only [Op.eqFields, Sem.run_ite, Sem.run_bind, if_pos hn, h1, h2, h3, Result.andThen_ok, hb, Bool.not_true, Bool.false_eq_true, if_false, hr]
  · refine ⟨false, ?_, by simp [e]⟩
    have hb : (a == b) = false := by simpa using e
    simp only [Op.eqFields, Sem.run_ite, Sem.run_bind, if_pos hn, h1, h2, h3, Result.andThen_ok, hb, Bool.not_false, if_true, Sem.run_pure]
theorem eq_items2 (E : TypeId) (k : IntKind) (n : Nat) (f g : Nat → Int) (d : Nat) (hE : Tryd.prog.plainKey E = true) (hs : Tryd.prog.cellsOf E = 1) (hu : Tryd.prog.underlying E = some (.int k)) (w : World) : ∀ is : List Nat, (∀ j ∈ is, j < n) →
    ∃ r : Bool, (Op.eqItems (d + 1) E (Tryd.prog.cellsOf E) (nums k n f) (nums k n g) is).run Tryd.prog w = .ok r w ∧ (r = true ↔ ∀ j ∈ is, f j = g j)
  | [], _ => ⟨true, by simp [Op.eqItems], by simp⟩
  | j :: is, h => by
    have h1 := run_part_plain (P := Tryd.prog) (w := w) hE (nums_get k n f j (h j (by simp)))
    have h2 := run_part_plain (P := Tryd.prog) (w := w) hE (nums_get k n g j (h j (by simp)))
    obtain ⟨r, hr, hi⟩ := eq_items2 E k n f g d hE hs hu w is (fun i hi => h i (by simp [hi]))
    rw [hs] at hr ⊢
    have h3 := run_equalIn_int (P := Tryd.prog) w d E k k (f j) (g j) hu
    by_cases e : f j = g j
    · refine ⟨r, ?_, by simp [e, hi]⟩
      have hb : (f j == g j) = true := by simpa using e
      simp only [Op.eqItems, Sem.run_bind, Nat.mul_one, h1, h2, h3, Result.andThen_ok, hb, Bool.not_true, Bool.false_eq_true, if_false, Sem.run_ite, hr]
    · refine ⟨false, ?_, by simp [e]⟩
      have hb : (f j == g j) = false := by simpa using e
      simp only [Op.eqItems, Sem.run_bind, Nat.mul_one, h1, h2, h3, Result.andThen_ok, hb, Bool.not_false, if_true, Sem.run_ite, Sem.run_pure]
theorem list_eq_of_bf {a b : List Int} (ha : a.length = 32) (hb : b.length = 32) : (∀ j ∈ List.range 32, bf a j = bf b j) ↔ a = b := by
  constructor
  · intro h
    apply List.ext_getElem (by rw [ha, hb])
    intro i h1 h2
    have := h i (by simp; omega)
    simpa [bf, List.getD, h1, h2] using this
  · rintro rfl j _; rfl
theorem hash_part (x : En) (w : World) : (part 25 (enV x) 10).run Tryd.prog w = .ok (.agg (nums .u8 32 (bf x.hash))) w := by
  have e : (enV x).extract 10 42 = nums .u8 32 (bf x.hash) := by
    apply Array.ext_getElem?
    intro i
    by_cases hi : i < 32
    · rw [Array.getElem?_extract_of_lt (by rw [enV_size]; omega), ← Array.getElem?_eq_getElem, enV_hash x i hi, nums_get _ _ _ _ hi]
    · rw [Array.getElem?_eq_none (by simp [enV_size]; omega), Array.getElem?_eq_none (by rw [nums_size]; omega)]
  have h1 : (isAgg 25).run Tryd.prog w = .ok true w := by kernel_rfl
  have h2 : (sizeOf 25).run Tryd.prog w = .ok 32 w := by kernel_rfl
  simp only [part, Sem.run_bind, h1, Result.andThen_ok, if_true, h2, Sem.run_pure, e]
theorem eq_en (x y : En) (hx : x.hash.length = 32) (hy : y.hash.length = 32) (w : World) : ∃ r : Bool, (Op.equalIn 10000 27 (.agg (enV x)) (.agg (enV y))).run Tryd.prog w = .ok r w ∧ (r = true ↔ x = y) := by
  have hst : Tryd.prog.underlying 27 = some (.struct (Tryd.prog.fieldsOf 27)) := by kernel_rfl
  rw [run_equalIn_struct w 9999 27 (enV x) (enV y) hst (by kernel_rfl)]
  have hf : (Tryd.prog.fieldsOf 27).toList.map fkey = [("Kind", 3, 0), ("Meter", 3, 1), ("Start", 2, 2), ("Energy", 2, 3), ("Band", 3, 4), ("Price", 2, 5), ("Cost", 2, 6), ("Flags", 3, 7), ("Count", 22, 8), ("Seq", 23, 9), ("Hash", 25, 10)] := by kernel_rfl
  generalize (Tryd.prog.fieldsOf 27).toList = fs at hf
  obtain ⟨f0, s0, rfl, n0, t0, o0, hf⟩ := fields_cons hf
  obtain ⟨f1, s1, rfl, n1, t1, o1, hf⟩ := fields_cons hf
  obtain ⟨f2, s2, rfl, n2, t2, o2, hf⟩ := fields_cons hf
  obtain ⟨f3, s3, rfl, n3, t3, o3, hf⟩ := fields_cons hf
  obtain ⟨f4, s4, rfl, n4, t4, o4, hf⟩ := fields_cons hf
  obtain ⟨f5, s5, rfl, n5, t5, o5, hf⟩ := fields_cons hf
  obtain ⟨f6, s6, rfl, n6, t6, o6, hf⟩ := fields_cons hf
  obtain ⟨f7, s7, rfl, n7, t7, o7, hf⟩ := fields_cons hf
  obtain ⟨f8, s8, rfl, n8, t8, o8, hf⟩ := fields_cons hf
  obtain ⟨f9, s9, rfl, n9, t9, o9, hf⟩ := fields_cons hf
  obtain ⟨fh, sh, rfl, nh, th, oh, hf⟩ := fields_cons hf
  obtain rfl : sh = [] := by cases sh <;> first | rfl | cases hf
  obtain ⟨a0, a1, a2, a3, a4, a5, a6, a7, a8, a9⟩ := enV_get x
  obtain ⟨b0, b1, b2, b3, b4, b5, b6, b7, b8, b9⟩ := enV_get y
  have hlast : ∃ r : Bool, (Op.eqFields (9998 + 1) (enV x) (enV y) [fh]).run Tryd.prog w = .ok r w ∧ (r = true ↔ x.hash = y.hash) := by
    obtain ⟨i, hi⟩ := Option.isSome_iff_exists.1 (show (Tryd.prog.info? 5).isSome = true by kernel_rfl)
    obtain ⟨r, hr, hri⟩ := eq_items2 5 .u8 32 (bf x.hash) (bf y.hash) 9997 (by kernel_rfl) (by kernel_rfl) Tryd.underlying5 w (List.range 32) (fun j hj => by simpa using hj)
    have hr2 := run_equalIn_array w 9998 (nums .u8 32 (bf x.hash)) (nums .u8 32 (bf y.hash)) Tryd.underlying25 hi
    rw [hr] at hr2
    have p1 := hash_part x w
    have p2 := hash_part y w
    rw [← th, ← oh] at p1 p2
    rw [← th] at hr2
    refine ⟨r, ?_, hri.trans (list_eq_of_bf hx hy)⟩
    simp only [Op.eqFields, Sem.run_ite, Sem.run_bind, if_pos (show fh.name ≠ "_" by rw [nh]; decide), p1, p2, hr2, Result.andThen_ok]
    cases r <;> simp [Sem.run_pure]
  have e9 := eqF_step (f := f9) (by rw [n9]; decide) (by rw [t9]; kernel_rfl) (by rw [t9]; exact Tryd.underlying23) (by rw [o9]; exact a9) (by rw [o9]; exact b9) hlast
  have e8 := eqF_step (f := f8) (by rw [n8]; decide) (by rw [t8]; kernel_rfl) (by rw [t8]; exact Tryd.underlying22) (by rw [o8]; exact a8) (by rw [o8]; exact b8) e9
  have e7 := eqF_step (f := f7) (by rw [n7]; decide) (by rw [t7]; kernel_rfl) (by rw [t7]; exact Tryd.underlying3) (by rw [o7]; exact a7) (by rw [o7]; exact b7) e8
  have e6 := eqF_step (f := f6) (by rw [n6]; decide) (by rw [t6]; kernel_rfl) (by rw [t6]; exact Tryd.underlying2) (by rw [o6]; exact a6) (by rw [o6]; exact b6) e7
  have e5 := eqF_step (f := f5) (by rw [n5]; decide) (by rw [t5]; kernel_rfl) (by rw [t5]; exact Tryd.underlying2) (by rw [o5]; exact a5) (by rw [o5]; exact b5) e6
  have e4 := eqF_step (f := f4) (by rw [n4]; decide) (by rw [t4]; kernel_rfl) (by rw [t4]; exact Tryd.underlying3) (by rw [o4]; exact a4) (by rw [o4]; exact b4) e5
  have e3 := eqF_step (f := f3) (by rw [n3]; decide) (by rw [t3]; kernel_rfl) (by rw [t3]; exact Tryd.underlying2) (by rw [o3]; exact a3) (by rw [o3]; exact b3) e4
  have e2 := eqF_step (f := f2) (by rw [n2]; decide) (by rw [t2]; kernel_rfl) (by rw [t2]; exact Tryd.underlying2) (by rw [o2]; exact a2) (by rw [o2]; exact b2) e3
  have e1 := eqF_step (f := f1) (by rw [n1]; decide) (by rw [t1]; kernel_rfl) (by rw [t1]; exact Tryd.underlying3) (by rw [o1]; exact a1) (by rw [o1]; exact b1) e2
  obtain ⟨r, hr, hi⟩ := eqF_step (f := f0) (by rw [n0]; decide) (by rw [t0]; kernel_rfl) (by rw [t0]; exact Tryd.underlying3) (by rw [o0]; exact a0) (by rw [o0]; exact b0) e1
  refine ⟨r, hr, hi.trans ?_⟩
  cases x; cases y
  simp only [En.mk.injEq]
theorem neq_en (x y : En) (hx : x.hash.length = 32) (hy : y.hash.length = 32) (w : World) : ∃ r : Bool, (binOp .neq 27 (.agg (enV x)) (.agg (enV y))).run Tryd.prog w = .ok (.bool r) w ∧ (r = false ↔ x = y) := by
  obtain ⟨r, hr, hi⟩ := eq_en x y hx hy w
  refine ⟨!r, ?_, by rw [Bool.not_eq_false']; exact hi⟩
  rw [run_neq_struct, hr]
  rfl
theorem exec_neq {o : Oper} {a : Act} {x y : Operand} {us vs : Array Value} {r : Value} {w : World} (ho : o.op = .binOp .neq 27 x y 27) (hx : a.eval x = .agg us) (hy : a.eval y = .agg vs)
    (h : (binOp .neq 27 (.agg us) (.agg vs)).run Tryd.prog w = .ok r w) : (execOp a.eval o).run Tryd.prog w = .ok (.value r) w := by
  have hg := run_eqGuard_agg (P := Tryd.prog) w .neq 27 x y us vs (by kernel_rfl)
  unfold execOp
  simp only [ho, hx, hy, Sem.run_bind, hg, Result.andThen_ok, h, Sem.run_pure]
end Go.Proofs.YtmeamdfmcpkofaaDoor
