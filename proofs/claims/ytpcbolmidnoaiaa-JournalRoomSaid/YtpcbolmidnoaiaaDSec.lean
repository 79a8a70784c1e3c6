/- Sectors and writes as values: loads, stores, builds, appends, told by their runs. -/
import Derived.Test.YtpcbolmidnoaiaaDNew
import Derived.Great.BuildSlice
import Derived.Laws.IdiomCopy
import Derived.Laws.Slices
set_option linter.unusedVariables false
set_option maxRecDepth 100000
set_option linter.unusedSimpArgs false
namespace Go.Proofs.Ytpcbolmidnoaiaa
open Go.RowKit
def secA (L : List Int) : Value := .agg (vals8 L).toArray
def wrA (n : Int) (L : List Int) : Value := .agg (wcells (n, L)).toArray
theorem sec_size {L : List Int} (h : L.length = 128) : (Try.prog.info? 94).map (·.size) = some (vals8 L).length := by rw [vals8_len, h]; kernel_rfl
theorem wcells_len {x : Int × List Int} (h : x.2.length = 128) : (wcells x).length = 129 := by unfold wcells; rw [List.length_cons, vals8_len, h]
theorem wr_size {n : Int} {L : List Int} (h : L.length = 128) : (Try.prog.info? 96).map (·.size) = some (wcells (n, L)).length := by rw [wcells_len h]; kernel_rfl
theorem wcells_one (x : Int × List Int) : ∀ u ∈ wcells x, u.oneCell' = true := by
  intro u hu
  rcases List.mem_cons.1 hu with rfl | h
  · rfl
  · exact vals8_one _ u h
theorem exec_load {T : TypeId} {o : Oper} {a : Act} {x : Operand} {w : World} {p : Addr} {v : Value} (ho : o.op = .load T x) (hx : a.eval x = .pointer (some p)) (h : (loadVar T p).run Try.prog w = .ok v w) : (execOp a.eval o).run Try.prog w = .ok (.value v) w := by
  unfold execOp
  simp only [ho, hx, Instr.loadAt, Instr.sureAddr, Sem.run_bind, Sem.run_pure, Result.andThen_ok, h]
theorem load_sec {w : World} {b o : Nat} {L : List Int} (h : w.rangeAt b o (vals8 L)) (hl : L.length = 128) : (loadVar 94 ⟨b, o, none⟩).run Try.prog w = .ok (secA L) w :=
  run_loadVar_mid (P := Try.prog) w b o 94 _ _ h Try.underlying94 rfl (sec_size hl)
theorem load_wr {w : World} {b o : Nat} {n : Int} {L : List Int} (h : w.rangeAt b o (wcells (n, L))) (hl : L.length = 128) : (loadVar 96 ⟨b, o, none⟩).run Try.prog w = .ok (wrA n L) w :=
  run_loadVar_mid (P := Try.prog) w b o 96 _ _ h Try.underlying96 rfl (wr_size hl)
/-- A slice, taken as an array. -/
theorem exec_array {o : Oper} {a : Act} {x : Operand} {w : World} {A : Option Addr} {n c : Nat} (ho : o.op = .sliceToArrayPointer 94 x) (hx : a.eval x = .slice A n c) (h : 128 ≤ n) : (execOp a.eval o).run Try.prog w = .ok (.value (.pointer A)) w := by
  unfold execOp
  simp only [ho, hx, Instr.arrayAt, Sem.run_bind, run_underlying Try.underlying94, Result.andThen_ok]
  rw [if_neg (by omega)]
  rfl
def setMany (cs : Array Value) : Nat → List Value → Array Value
  | _, [] => cs
  | o, v :: vs => setMany (cs.setIfInBounds o v) (o + 1) vs
theorem setMany_get : ∀ (vs : List Value) (o : Nat) (cs : Array Value) (i : Nat), (setMany cs o vs)[i]? = if o ≤ i ∧ i < o + vs.length ∧ i < cs.size then vs[i - o]? else cs[i]?
  | [], o, cs, i => by rw [if_neg (by simp; omega)]; rfl
  | v :: vs, o, cs, i => by
    show (setMany (cs.setIfInBounds o v) (o + 1) vs)[i]? = _
    rw [setMany_get vs (o + 1), Array.size_setIfInBounds, Array.getElem?_setIfInBounds, List.length_cons]
    by_cases h1 : o + 1 ≤ i ∧ i < o + 1 + vs.length ∧ i < cs.size
    · rw [if_pos h1, if_pos (by omega), show i - o = i - (o + 1) + 1 by omega]; rfl
    · rw [if_neg h1]
      by_cases h2 : o = i
      · subst h2
        by_cases h3 : o < cs.size
        · rw [if_pos rfl, if_pos h3, if_pos (by omega)]; simp
        · rw [if_pos rfl, if_neg h3, if_neg (by omega), Array.getElem?_eq_none (by omega)]
      · rw [if_neg h2, if_neg (by omega)]
theorem setMany_size : ∀ (vs : List Value) (o : Nat) (cs : Array Value), (setMany cs o vs).size = cs.size
  | [], _, _ => rfl
  | v :: vs, o, cs => by rw [setMany, setMany_size vs]; exact Array.size_setIfInBounds
theorem fold_zip (off : Nat) : ∀ (l : List Value) (k : Nat) (cs : Array Value), (l.zipIdx k).foldl (fun cs (x : Value × Nat) => cs.setIfInBounds (off + x.2) x.1) cs = setMany cs (off + k) l
  | [], _, _ => rfl
  | v :: l, k, cs => by rw [List.zipIdx_cons, List.foldl_cons, fold_zip off l (k + 1)]; rfl
theorem fold_arr (off : Nat) (vs cs : Array Value) : vs.zipIdx.foldl (fun cs (x : Value × Nat) => cs.setIfInBounds (off + x.2) x.1) cs = setMany cs off vs.toList := by
  rw [← Array.foldl_toList, Array.toList_zipIdx, fold_zip]; rfl
theorem fill_one (place : Nat → Option (Nat × Nat)) (cells : Array Value) (i off size : Nat) (v : Value) (rest : List (Nat × Value)) (h : place i = some (off, size)) (hs : v.cells.size = size) (hf : off + size ≤ cells.size) :
    Instr.fill place cells ((i, v) :: rest) = Instr.fill place (setMany cells off v.cells.toList) rest := by
  rw [Instr.fill, h]
  simp only
  rw [if_neg (by simp; omega)]
  congr 1
  exact fold_arr off v.cells cells
theorem setMany_all (cs : Array Value) (vs : List Value) (h : vs.length = cs.size) : setMany cs 0 vs = vs.toArray := by
  apply Array.ext_getElem?
  intro i
  rw [setMany_get]
  by_cases hi : i < cs.size
  · rw [if_pos (by omega)]; simp
  · rw [if_neg (by omega), Array.getElem?_eq_none (by omega), Array.getElem?_eq_none (by simp; omega)]
theorem wr_built (z : Array Value) (n : Int) (L : List Int) (hl : L.length = 128) (hz : z.size = 129) :
    Instr.fill ([(0, 1), (1, 128)].toArray[·]?) z [(0, .int .i64 n), (1, secA L)] = some (wcells (n, L)).toArray := by
  rw [fill_one _ _ 0 0 1 _ _ rfl rfl (by omega)]
  rw [fill_one _ _ 1 1 128 _ _ rfl (by show (vals8 L).toArray.size = 128; simp [vals8, hl]) (by rw [setMany_size]; omega)]
  show some _ = some _
  congr 1
  apply Array.ext_getElem?
  intro i
  rw [setMany_get, setMany_size, setMany_get]
  show (if 1 ≤ i ∧ i < 1 + (vals8 L).length ∧ i < z.size then (vals8 L)[i - 1]? else if 0 ≤ i ∧ i < 0 + 1 ∧ i < z.size then [Value.int .i64 n][i - 0]? else z[i]?) = _
  rw [vals8_len, hl, hz]
  rcases Nat.lt_or_ge i 1 with h1 | h1
  · obtain rfl : i = 0 := by omega
    rfl
  · by_cases h2 : i < 129
    · rw [if_pos (by omega)]
      obtain ⟨j, rfl⟩ : ∃ j, i = j + 1 := ⟨i - 1, by omega⟩
      simp [wcells]
    · rw [if_neg (by omega), if_neg (by omega), Array.getElem?_eq_none (by omega), Array.getElem?_eq_none (by simp [wcells, vals8, hl]; omega)]
theorem wr_info : (Try.prog.info? 96).map (fun i => (i.zero, i.size, i.bytes)) = some (some (.agg (#[.int .i64 0] ++ nums .u8 128 fun _ => 0)), 129, 136) := by kernel_rfl
theorem wr_parts : ∃ i, Try.prog.info? 96 = some i ∧ i.zero = some (.agg (#[.int .i64 0] ++ nums .u8 128 fun _ => 0)) ∧ i.size = 129 ∧ i.bytes = 136 := by
  have h := wr_info
  cases hi : Try.prog.info? 96 with
  | none => rw [hi] at h; cases h
  | some i => rw [hi] at h; simp at h; exact ⟨i, rfl, h.1, h.2.1, h.2.2⟩
theorem wr_fields : ∃ f0 f1, Try.prog.underlying 96 = some (.struct #[f0, f1]) ∧ f0.offset = 0 ∧ f1.offset = 1 ∧ (Try.prog.info? f0.type).map (·.size) = some 1 ∧ (Try.prog.info? f1.type).map (·.size) = some 128 := ⟨_, _, Try.underlying96, rfl, rfl, by kernel_rfl, by kernel_rfl⟩
theorem run_build_wr (w : World) (n : Int) (L : List Int) (hl : L.length = 128) : (Instr.build 96 #[(0, .int .i64 n), (1, secA L)]).run Try.prog w = .ok (wrA n L) w := by
  obtain ⟨i, hi, hz, hs, hb⟩ := wr_parts
  obtain ⟨f0, f1, hu, o0, o1, s0, s1⟩ := wr_fields
  refine run_build w _ _ _ ?_
  unfold Program.built
  have m0 : (Try.prog.info? f0.type).map (fun i => (f0.offset, i.size)) = some (0, 1) := by
    cases h : Try.prog.info? f0.type with
    | none => rw [h] at s0; cases s0
    | some j => rw [h] at s0; simp at s0; simp [o0, s0]
  have m1 : (Try.prog.info? f1.type).map (fun i => (f1.offset, i.size)) = some (1, 128) := by
    cases h : Try.prog.info? f1.type with
    | none => rw [h] at s1; cases s1
    | some j => rw [h] at s1; simp at s1; simp [o1, s1]
  have hm : (#[f0, f1] : Array Field).toList.mapM (fun f => (Try.prog.info? f.type).map fun i => (f.offset, i.size)) = some [(0, 1), (1, 128)] := by
    simp only [List.mapM_cons, List.mapM_nil, m0, m1]; rfl
  rw [hi, hu]
  simp only [hz, hm]
  exact wr_built _ n L hl (by simp [Value.cells, nums_size])
theorem run_slice_wr (w : World) (n : Int) (L : List Int) (hl : L.length = 128) : (Instr.buildSlice 51 1 #[(0, wrA n L)]).run Try.prog w = .ok (.slice (some ⟨w.heap.size, 0, none⟩) 1 1) (w.alloc (.cells (wcells (n, L)).toArray 96)) := by
  obtain ⟨i, hi, hz, hs, hb⟩ := wr_parts
  refine run_buildSlice (P := Try.prog) w 51 96 1 _ _ i _ Try.underlying51 hi hz (by rw [hs]; decide) (by rw [hs]; decide) ?_
  rw [hs]
  have hwl : (wcells (n, L)).length = 129 := wcells_len hl
  rw [fill_one _ _ 0 0 129 _ _ rfl (by show (wcells (n, L)).toArray.size = 129; simpa using hwl) (by simp)]
  show some _ = some _
  congr 1
  rw [setMany_all _ _ (by show (wcells (n, L)).length = _; rw [hwl]; simp)]
  simp [wrA, Value.cells]
theorem flat_one (c : List (Int × List Int)) (x : Int × List Int) : (c.map wcells).flatten ++ wcells x = ((c ++ [x]).map wcells).flatten := by simp
/-- The cache takes a write. -/
theorem run_append_wr (w : World) (ty : Nat) (v : Value) (c : List (Int × List Int)) (h : w.ownsRow 0 96 129 v c.length (c.map wcells).flatten) (hc : c.length < 256) (g : Nat) (n : Int) (L : List Int) (hl : L.length = 128) (hg : At 96 w g (wcells (n, L)).toArray) :
    ∃ v' w', (Builtin.append_ #[51, 51] ty #[v, .slice (some ⟨g, 0, none⟩) 1 1]).run Try.prog w = .ok v' w' ∧ w'.ownsRow 0 96 129 v' (c ++ [(n, L)]).length ((c ++ [(n, L)]).map wcells).flatten ∧ w.grownBy w' v.ownBlock ∧ (v'.ownBlock = v.ownBlock ∨ v'.ownBlock = some w.heap.size) := by
  obtain ⟨i, hi, hz, hs, hb⟩ := wr_parts
  have hwl : (wcells (n, L)).length = 129 := wcells_len hl
  obtain ⟨v', w', h1, h2, h3, _, h5⟩ := run_append_own_at (P := Try.prog) w 0 51 ty 96 i _ 129 136 Try.underlying51 hi hz hs hb (by simp [Value.cells, nums_size]) (by decide) v c.length _ h ⟨g, 0, none⟩ 1 1 (wcells (n, L)) (by rw [hwl])
    (fun j u hu => by rw [Addr.add_mid, Nat.zero_add, hg.cell]; simpa using hu) (wcells_one _) (by unfold maxLen; omega) (by omega) (Nat.zero_le _)
  refine ⟨v', w', h1, ?_, h3, h5⟩
  rw [flat_one] at h2
  rw [List.length_append]
  exact h2
theorem exec_build_wr {o : Oper} {a : Act} {x y : Operand} {w : World} {n : Int} {L : List Int} (ho : o.op = .build 96 #[(0, x), (1, y)]) (hx : a.eval x = .int .i64 n) (hy : a.eval y = secA L) (hl : L.length = 128) :
    (execOp a.eval o).run Try.prog w = .ok (.value (wrA n L)) w := by
  have e : (#[(0, x), (1, y)] : Array (Nat × Operand)).map (fun (i, x) => (i, a.eval x)) = #[(0, .int .i64 n), (1, secA L)] := by simp [hx, hy]
  unfold execOp
  simp only [ho, e, Sem.run_bind, run_build_wr w n L hl, Result.andThen_ok, Sem.run_pure]
theorem exec_slice_wr {o : Oper} {a : Act} {x : Operand} {w : World} {n : Int} {L : List Int} (ho : o.op = .buildSlice 51 1 #[(0, x)]) (hx : a.eval x = wrA n L) (hl : L.length = 128) :
    (execOp a.eval o).run Try.prog w = .ok (.value (.slice (some ⟨w.heap.size, 0, none⟩) 1 1)) (w.alloc (.cells (wcells (n, L)).toArray 96)) := by
  have e : (#[(0, x)] : Array (Nat × Operand)).map (fun (i, x) => (i, a.eval x)) = #[(0, wrA n L)] := by simp [hx]
  unfold execOp
  simp only [ho, e, Sem.run_bind, run_slice_wr w n L hl, Result.andThen_ok, Sem.run_pure]
theorem exec_append {o : Oper} {a : Act} {s x : Operand} {w w' : World} {T : TypeId} {v u v' : Value} (ho : o.op = .call { callee := .builtin .append, args := #[s, x], argTypes := #[T, T] }) (hs : a.eval s = v) (hx : a.eval x = u)
    (hr : (Builtin.append_ #[T, T] o.type #[v, u]).run Try.prog w = .ok v' w') : (execOp a.eval o).run Try.prog w = .ok (.value v') w' := by
  unfold execOp
  simp only [ho, resolve, invoke, builtin, Sem.run_bind, Sem.run_pure, Result.andThen_ok, List.map_toArray, List.map_cons, List.map_nil, hs, hx, hr]
theorem exec_copy {o : Oper} {a : Act} {s x : Operand} {w w' : World} {T : TypeId} {v u v' : Value} (ho : o.op = .call { callee := .builtin .copy, args := #[s, x], argTypes := #[T, T] }) (hs : a.eval s = v) (hx : a.eval x = u)
    (hr : (Builtin.copy_ #[T, T] o.type #[v, u]).run Try.prog w = .ok v' w') : (execOp a.eval o).run Try.prog w = .ok (.value v') w' := by
  unfold execOp
  simp only [ho, resolve, invoke, builtin, Sem.run_bind, Sem.run_pure, Result.andThen_ok, List.map_toArray, List.map_cons, List.map_nil, hs, hx, hr]
theorem exec_store {o : Oper} {a : Act} {x y : Operand} {w : World} {T : TypeId} {b k : Nat} {u v : Value} (ho : o.op = .store T x y) (hx : a.eval x = .pointer (some ⟨b, k, none⟩)) (hy : a.eval y = v) (hc : w.cell? ⟨b, k, none⟩ = some u) (hf : w.frozen? ⟨b, k, none⟩ = false) (h1 : v.oneCell' = true)
    (hsz : (Try.prog.info? T).map (·.size) = some 1) : (execOp a.eval o).run Try.prog w = .ok .skip (w.setCell ⟨b, k, none⟩ v) := by
  have e : (store ⟨b, k, none⟩ v .plain).run Try.prog w = .ok () (w.setCell ⟨b, k, none⟩ v) := by
    rw [run_store _ _ _ _ _ h1, hc]; simp [hf]
  have ht : w.there b k 1 := fun j hj => by
    obtain rfl : j = 0 := by omega
    exact ⟨by rw [Nat.add_zero, hc]; rfl, by rw [Nat.add_zero]; exact hf⟩
  have hv : v.cells = #[v] := by cases v <;> first | rfl | cases h1
  have hst : (storeVar T ⟨b, k, none⟩ v).run Try.prog w = .ok () (w.setCell ⟨b, k, none⟩ v) := by
    cases hq : Try.prog.info? T with
    | none => rw [hq] at hsz; cases hsz
    | some i =>
      rw [hq] at hsz
      have hs : i.size = 1 := by simpa using hsz
      have := run_storeCells_cells (P := Try.prog) b k [v] 0 w (fun j hj => by simpa using (ht j (by simpa using hj)).1) (fun j hj => by simpa using (ht j (by simpa using hj)).2) (fun u hu => by rw [List.mem_singleton.1 hu]; exact h1)
      simp [storeVar, sizeOf, typeInfo, hq, hs, hv] at this ⊢
      first | exact this | simpa using this
  unfold execOp
  simp only [ho, hx, hy, Instr.storeAt, Instr.sureAddr, Sem.run_bind, Sem.run_pure, Result.andThen_ok, hst]
end Go.Proofs.Ytpcbolmidnoaiaa
