/- Operations on entries, their numbers and hashes: what they do to memory, as runs. -/
import Derived.Test.YtmeamdfmcpkofaaDoorEVal
import Derived.Deep.MidRow
import Derived.Deep.WholeRow
import Derived.TacticsIn
import Derived.Laws.Tables
set_option linter.unusedVariables false
set_option linter.unusedSimpArgs false
namespace Go.Proofs.YtmeamdfmcpkofaaDoor
open Go.RowKit Go.Shelf
theorem exec_load {T : TypeId} {o : Oper} {a : Act} {x : Operand} {w : World} {p : Addr} {v : Value} (ho : o.op = .load T x) (hx : a.eval x = .pointer (some p)) (h : (loadVar T p).run Tryd.prog w = .ok v w) : (execOp a.eval o).run Tryd.prog w = .ok (.value v) w := by
  unfold execOp
  simp only [ho, hx, Instr.loadAt, Instr.sureAddr, Sem.run_bind, Sem.run_pure, Result.andThen_ok, h]
theorem exec_store {o : Oper} {a : Act} {x y : Operand} {w : World} {T : TypeId} {b k : Nat} {u v : Value} (ho : o.op = .store T x y) (hx : a.eval x = .pointer (some ⟨b, k, none⟩)) (hy : a.eval y = v) (hc : w.cell? ⟨b, k, none⟩ = some u) (hf : w.frozen? ⟨b, k, none⟩ = false) (h1 : v.oneCell' = true)
    (hsz : (Tryd.prog.info? T).map (·.size) = some 1) : (execOp a.eval o).run Tryd.prog w = .ok .skip (w.setCell ⟨b, k, none⟩ v) := by
  have e : (store ⟨b, k, none⟩ v .plain).run Tryd.prog w = .ok () (w.setCell ⟨b, k, none⟩ v) := by
    rw [run_store _ _ _ _ _ h1, hc]; simp [hf]
  have ht : w.there b k 1 := fun j hj => by
    obtain rfl : j = 0 := by omega
    exact ⟨by rw [Nat.add_zero, hc]; rfl, by rw [Nat.add_zero]; exact hf⟩
  have hv : v.cells = #[v] := by cases v <;> first | rfl | cases h1
  have hst : (storeVar T ⟨b, k, none⟩ v).run Tryd.prog w = .ok () (w.setCell ⟨b, k, none⟩ v) := by
    cases hq : Tryd.prog.info? T with
    | none => rw [hq] at hsz; cases hsz
    | some i =>
      rw [hq] at hsz
      have hs : i.size = 1 := by simpa using hsz
      have := run_storeCells_cells (P := Tryd.prog) b k [v] 0 w (fun j hj => by simpa using (ht j (by simpa using hj)).1) (fun j hj => by simpa using (ht j (by simpa using hj)).2) (fun u hu => by rw [List.mem_singleton.1 hu]; exact h1)
      simp [storeVar, sizeOf, typeInfo, hq, hs, hv] at this ⊢
      first | exact this | simpa using this
  unfold execOp
  simp only [ho, hx, hy, Instr.storeAt, Instr.sureAddr, Sem.run_bind, Sem.run_pure, Result.andThen_ok, hst]
theorem exec_append {o : Oper} {a : Act} {s x : Operand} {w w' : World} {T : TypeId} {v u v' : Value} (ho : o.op = .call { callee := .builtin .append, args := #[s, x], argTypes := #[T, T] }) (hs : a.eval s = v) (hx : a.eval x = u)
    (hr : (Builtin.append_ #[T, T] o.type #[v, u]).run Tryd.prog w = .ok v' w') : (execOp a.eval o).run Tryd.prog w = .ok (.value v') w' := by
  unfold execOp
  simp only [ho, resolve, invoke, builtin, Sem.run_bind, Sem.run_pure, Result.andThen_ok, List.map_toArray, List.map_cons, List.map_nil, hs, hx, hr]
theorem wpListIn_val {F : Fence} {n : Nat} {w w' : World} {ops : Array Oper} {rest : List Oper} {o : Oper} {a : Act} {v : Value} {Q : Exit → Act → World → Prop} (hF : ∀ f, F.fn f) (hgd : o.guard = none) (hnd : ∀ c, o.op ≠ .defer c)
    (hrun : (execOp a.eval o).run Tryd.prog w = .ok (.value v) w') (h : wpListIn F n Tryd.prog ops Q rest (a.put o.dst v) w') : wpListIn F n Tryd.prog ops Q (o :: rest) a w := by
  refine wpListIn_plain hgd fun K hK => ?_
  unfold Oper.wpIn
  refine ⟨fun f _ => hF f, ?_⟩
  rw [Oper.semAt_plain F _ _ hnd, hrun]
  exact hK _ _ h
theorem wpListIn_skip {F : Fence} {n : Nat} {w w' : World} {ops : Array Oper} {rest : List Oper} {o : Oper} {a : Act} {Q : Exit → Act → World → Prop} (hF : ∀ f, F.fn f) (hgd : o.guard = none) (hnd : ∀ c, o.op ≠ .defer c)
    (hrun : (execOp a.eval o).run Tryd.prog w = .ok .skip w') (h : wpListIn F n Tryd.prog ops Q rest (a.put o.dst undef) w') : wpListIn F n Tryd.prog ops Q (o :: rest) a w := by
  refine wpListIn_plain hgd fun K hK => ?_
  unfold Oper.wpIn
  refine ⟨fun f _ => hF f, ?_⟩
  rw [Oper.semAt_plain F _ _ hnd, hrun]
  exact hK _ _ h
theorem load_enV {w : World} {g : Nat} {X : En} (h : At 27 w g (enV X)) : (loadVar 27 ⟨g, 0, none⟩).run Tryd.prog w = .ok (.agg (enV X)) w :=
  run_loadVar_row w g _ _ _ _ _ h Tryd.underlying27 rfl (size_en X)
theorem load_numV {w : World} {g : Nat} {f : Nat → Int} (h : At 61 w g (nums .u64 9 f)) : (loadVar 61 ⟨g, 0, none⟩).run Tryd.prog w = .ok (.agg (nums .u64 9 f)) w :=
  run_loadVar_row w g _ _ _ _ _ h Tryd.underlying61 rfl (size_nums f)
theorem load_hashV {w : World} {g : Nat} {f : Nat → Int} (h : At 25 w g (nums .u8 32 f)) : (loadVar 25 ⟨g, 0, none⟩).run Tryd.prog w = .ok (.agg (nums .u8 32 f)) w :=
  run_loadVar_row w g _ _ _ _ _ h Tryd.underlying25 rfl (size_hash f)
theorem range_hash10 {w : World} {g : Nat} {X : En} (h : At 27 w g (enV X)) : w.rangeAt g 10 (nums .u8 32 (bf X.hash)).toList := fun j v hv => by
  have hj : j < 32 := by
    have h2 := (List.getElem?_eq_some_iff.1 hv).1
    simpa [nums] using h2
  rw [Array.getElem?_toList, nums_get _ _ _ _ hj] at hv
  cases hv
  exact (h.cell (10 + j)).trans (enV_hash X j hj)
/-- The hash inside an entry. -/
theorem load_hash10 {w : World} {g : Nat} {X : En} (h : At 27 w g (enV X)) : (loadVar 25 ⟨g, 10, none⟩).run Tryd.prog w = .ok (.agg (nums .u8 32 (bf X.hash))) w := by
  have e := run_loadVar_mid (P := Tryd.prog) w g 10 25 _ _ (range_hash10 h) Tryd.underlying25 rfl (by rw [Array.length_toList]; exact size_hash _)
  rwa [Array.toArray_toList] at e
theorem exec_store_agg {o : Oper} {a : Act} {x y : Operand} {w : World} {T T' : TypeId} {g : Nat} {cs old : Array Value} (ho : o.op = .store T x y) (hx : a.eval x = .pointer (some ⟨g, 0, none⟩)) (hy : a.eval y = .agg cs) (hg : At T' w g old) (hi : (Tryd.prog.info? T).map (·.size) = some cs.size)
    (hold : old.size = cs.size) (h1 : cs.all (·.oneCell') = true) : (execOp a.eval o).run Tryd.prog w = .ok .skip (w.setRow g cs) := by
  unfold execOp
  simp only [ho, hx, hy, Instr.storeAt, Instr.sureAddr, Sem.run_bind, Sem.run_pure, Result.andThen_ok, run_storeVar_row w g _ T old cs hg hi hold h1]
theorem exec_store_en {o : Oper} {a : Act} {x y : Operand} {w : World} {T' : TypeId} {g : Nat} {X : En} {old : Array Value} (ho : o.op = .store 27 x y) (hx : a.eval x = .pointer (some ⟨g, 0, none⟩)) (hy : a.eval y = .agg (enV X)) (hg : At T' w g old) (hs : old.size = 42) : (execOp a.eval o).run Tryd.prog w = .ok .skip (w.setRow g (enV X)) :=
  exec_store_agg ho hx hy hg (size_en X) (by rw [enV_size, hs]) (enV_one X)
theorem exec_store_num {o : Oper} {a : Act} {x y : Operand} {w : World} {T' : TypeId} {g : Nat} {f : Nat → Int} {old : Array Value} (ho : o.op = .store 61 x y) (hx : a.eval x = .pointer (some ⟨g, 0, none⟩)) (hy : a.eval y = .agg (nums .u64 9 f)) (hg : At T' w g old) (hs : old.size = 9) : (execOp a.eval o).run Tryd.prog w = .ok .skip (w.setRow g (nums .u64 9 f)) :=
  exec_store_agg ho hx hy hg (size_nums f) (by rw [nums_size, hs]) (nums_one _ _ _)
theorem exec_store_hash {o : Oper} {a : Act} {x y : Operand} {w : World} {T' : TypeId} {g : Nat} {f : Nat → Int} {old : Array Value} (ho : o.op = .store 25 x y) (hx : a.eval x = .pointer (some ⟨g, 0, none⟩)) (hy : a.eval y = .agg (nums .u8 32 f)) (hg : At T' w g old) (hs : old.size = 32) : (execOp a.eval o).run Tryd.prog w = .ok .skip (w.setRow g (nums .u8 32 f)) :=
  exec_store_agg ho hx hy hg (size_hash f) (by rw [nums_size, hs]) (nums_one _ _ _)
theorem at_first {T : TypeId} (w : World) (cs : Array Value) (o : Obj) : At T ((w.alloc (.cells cs T)).alloc o) w.heap.size cs := (At.new T w cs).alloc o
theorem alloc_setRow (w : World) (cs cs' : Array Value) (T : TypeId) (g : Nat) (hg : g = w.heap.size) : (w.alloc (.cells cs T)).setRow g cs' = w.alloc (.cells cs' T) := by
  subst hg
  unfold World.setRow World.alloc
  simp only [World.mk.injEq, and_true, true_and]
  apply Array.ext_getElem?
  intro i
  rw [Array.getElem?_modify]
  by_cases h : w.heap.size = i
  · subst h; simp
  · rw [if_neg h]
    by_cases h2 : i < w.heap.size
    · rw [Array.getElem?_push_lt h2, Array.getElem?_push_lt h2]
    · rw [Array.getElem?_eq_none (by simp; omega), Array.getElem?_eq_none (by simp; omega)]
end Go.Proofs.YtmeamdfmcpkofaaDoor
