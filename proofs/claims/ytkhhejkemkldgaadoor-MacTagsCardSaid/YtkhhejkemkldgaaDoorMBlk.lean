/- The block of package mac: reading, writing, copying into it. -/
import Derived.Test.YtkhhejkemkldgaaDoorSCopy
import Derived.Test.YtkhhejkemkldgaaDoorSSum
set_option linter.unusedVariables false
set_option linter.unusedSimpArgs false
namespace Go.Proofs.YtkhhejkemkldgaaDoor
open Go.RowKit Go.Shelf
theorem size_mblk (f : Nat → Int) : (Tryd.prog.info? 76).map (·.size) = some (nums .u8 64 f).size := by rw [nums_size]; kernel_rfl
theorem zero_mblk : (Tryd.prog.info? 76).map (fun i => (i.zero, i.size)) = some (some (.agg (nums .u8 64 fun _ => 0)), 64) := by kernel_rfl
theorem load_mblk {ops : Array Oper} {rest : List Oper} {o : Oper} {a : Act} {w : World} {Q : Exit → Act → World → Prop} {x : Operand} {g : Nat} {f : Nat → Int} (hg : At 76 w g (nums .u8 64 f))
    (hgd : o.guard = none) (ho : o.op = .load 76 x) (hx : a.eval x = .pointer (some ⟨g, 0, none⟩))
    (h : wpList Tryd.prog ops Q rest (a.put o.dst (.agg (nums .u8 64 f))) w) : wpList Tryd.prog ops Q (o :: rest) a w :=
  wpList_load_row hgd 76 x ho g hx _ _ _ _ hg Tryd.underlying76 rfl (size_mblk f) h
theorem store_mblk {ops : Array Oper} {rest : List Oper} {o : Oper} {a : Act} {w : World} {Q : Exit → Act → World → Prop} {x y : Operand} {g : Nat} {f f' : Nat → Int} (hg : At 76 w g (nums .u8 64 f'))
    (hgd : o.guard = none) (ho : o.op = .store 76 x y) (hx : a.eval x = .pointer (some ⟨g, 0, none⟩)) (hy : a.eval y = .agg (nums .u8 64 f))
    (h : wpList Tryd.prog ops Q rest (a.put o.dst undef) (w.setRow g (nums .u8 64 f))) : wpList Tryd.prog ops Q (o :: rest) a w :=
  wpList_store_row hgd 76 x y ho g (nums .u8 64 f) hx hy _ _ hg (size_mblk f) (by rw [nums_size, nums_size]) (nums_one .u8 64 f) h
theorem results_mblk {fn : Func} {p : Tmp} (h : fn.results = #[.cell p 76]) (tmps : Array Value) (w : World) (g : Nat) (f : Nat → Int) (hp : tmps.getD p undef = .pointer (some ⟨g, 0, none⟩)) (hg : At 76 w g (nums .u8 64 f)) :
    (results fn tmps).run Tryd.prog w = .ok (.agg (nums .u8 64 f)) w := results_cell_row h tmps w g _ _ _ _ hp hg Tryd.underlying76 rfl (size_mblk f)
theorem idx_mblk (f : Nat → Int) (j : Nat) (hj : j < 64) (w : World) : (Instr.index 76 (.agg (nums .u8 64 f)) (.int .i64 (j : Int))).run Tryd.prog w = .ok (.int .u8 (f j)) w :=
  idx_nums _ 5 .u8 64 f j hj Tryd.underlying76 (by kernel_rfl) (by kernel_rfl) (by kernel_rfl) w
theorem load_mblk_in {F : Fence} {n : Nat} {w : World} {ops : Array Oper} {rest : List Oper} {o : Oper} {a : Act} {Q : Exit → Act → World → Prop} {x : Operand} {g : Nat} {f : Nat → Int} (hF : ∀ f, F.fn f) (hg : At 76 w g (nums .u8 64 f))
    (hgd : o.guard = none) (ho : o.op = .load 76 x) (hx : a.eval x = .pointer (some ⟨g, 0, none⟩))
    (h : wpListIn F n Tryd.prog ops Q rest (a.put o.dst (.agg (nums .u8 64 f))) w) : wpListIn F n Tryd.prog ops Q (o :: rest) a w :=
  wpListIn_val hF hgd (by rw [ho]; intro c hc; cases hc) (by
    unfold execOp
    simp only [ho, hx, Instr.loadAt, Instr.sureAddr, Sem.run_bind, Sem.run_pure, Result.andThen_ok, run_loadVar_row w g _ 76 _ _ _ hg Tryd.underlying76 rfl (size_mblk f)]) h
theorem store_mblk_in {F : Fence} {n : Nat} {w : World} {ops : Array Oper} {rest : List Oper} {o : Oper} {a : Act} {Q : Exit → Act → World → Prop} {x y : Operand} {g : Nat} {f f' : Nat → Int} (hF : ∀ f, F.fn f) (hg : At 76 w g (nums .u8 64 f'))
    (hgd : o.guard = none) (ho : o.op = .store 76 x y) (hx : a.eval x = .pointer (some ⟨g, 0, none⟩)) (hy : a.eval y = .agg (nums .u8 64 f))
    (h : wpListIn F n Tryd.prog ops Q rest (a.put o.dst undef) (w.setRow g (nums .u8 64 f))) : wpListIn F n Tryd.prog ops Q (o :: rest) a w := by
  refine wpListIn_skip (w' := w.setRow g (nums .u8 64 f)) hF hgd (by rw [ho]; intro c hc; cases hc) ?_ h
  unfold execOp
  have := run_storeVar_row (P := Tryd.prog) w g 76 76 (nums .u8 64 f') (nums .u8 64 f) hg (size_mblk f) (by rw [nums_size, nums_size]) (nums_one .u8 64 f)
  simp only [ho, hx, hy, Instr.storeAt, Instr.sureAddr, Sem.run_bind, Sem.run_pure, Result.andThen_ok, this]
theorem run_copy_mblk (ty : TypeId) (w : World) (g o dCap : Nat) (f : Nat → Int) (ho : o ≤ 64) (hg : At 76 w g (nums .u8 64 f)) (B : Nat) (A : Option Addr) (m c : Nat) (xs : List Int) (hb : Bys8 B w (.slice A m c) xs) :
    ∃ w', (Builtin.copy_ #[33, 33] ty #[.slice (some ⟨g, o, none⟩) (64 - o) dCap, .slice A m c]).run Tryd.prog w = .ok (.int .i64 ((min (64 - o) xs.length : Nat) : Int)) w' ∧
      At 76 w' g (nums .u8 64 fun j => if o ≤ j ∧ j < o + min (64 - o) xs.length then xs.getD (j - o) 0 else f j) ∧ w.grownBy w' (some g) := by
  obtain ⟨hr, ⟨rfl, a, c', e⟩ | ⟨b, off, c', e, hB, hc⟩⟩ := hb
  · cases e
    refine ⟨w, ?_, hg.like (fun j hj => by rw [if_neg (by simp)]), World.grownBy.refl w _⟩
    rw [run_copy_none w 33 33 ty 5 _ A _ _ 0 c Tryd.underlying33 size_u8 (by simp)]
    simp [goInt]
  · cases e
    have hlen : (((xs.take (64 - o)).map (Value.int .u8)) : List Value).length = Nat.min xs.length (64 - o) := by
      simp [Nat.min_comm, Nat.min_def]
    have hl2 : (xs.take (64 - o)).length = min (64 - o) xs.length := by simp
    have hrun := run_copy_cells (P := Tryd.prog) w 33 33 ty 5 g o (64 - o) dCap ⟨b, off, none⟩ xs.length c ((xs.take (64 - o)).map (Value.int .u8)) Tryd.underlying33 size_u8 hlen
      (fun j v hv => by
        rw [Addr.add_mid]
        simp only [List.getElem?_map, Option.map_eq_some_iff] at hv
        obtain ⟨x, hx, rfl⟩ := hv
        have hj : j < xs.length := by
          have := (List.getElem?_eq_some_iff.1 hx).1; simp at this; omega
        have hj2 : j < 64 - o := by
          have := (List.getElem?_eq_some_iff.1 hx).1; simp at this; omega
        rw [List.getElem?_take_of_lt hj2] at hx
        rw [hc j hj]; simp [List.getD, hx])
      (fun j hj => by rw [hg.num (o + j) (by simp at hj; omega)]; rfl) (fun j _ => hg.free _)
      (fun v hv => by simp only [List.mem_map] at hv; obtain ⟨x, _, rfl⟩ := hv; rfl)
    refine ⟨_, hrun.trans ?_, (At.setCells (xs.take (64 - o)) o f w (by rw [hl2]; omega) hg).like (fun j hj => ?_), grown_setCells g _ o w⟩
    · rw [hlen, show Nat.min xs.length (64 - o) = min (64 - o) xs.length from Nat.min_comm _ _]; rfl
    · rw [hl2]
      by_cases h : o ≤ j ∧ j < o + min (64 - o) xs.length
      · rw [if_pos h, if_pos h, List.getD, List.getElem?_take_of_lt (by omega)]; rfl
      · rw [if_neg h, if_neg h]
theorem copy_mblk {w : World} {ops : Array Oper} {rest : List Oper} {o : Oper} {a : Act} {Q : Exit → Act → World → Prop} (hgd : o.guard = none) (d x : Operand)
    (ho : o.op = .call { callee := .builtin .copy, args := #[d, x], argTypes := #[33, 33] }) (g dCap : Nat) (f : Nat → Int) (hd : a.eval d = .slice (some ⟨g, 0, none⟩) 64 dCap) (hg : At 76 w g (nums .u8 64 f))
    (B : Nat) (A : Option Addr) (m c : Nat) (xs : List Int) (hx : a.eval x = .slice A m c) (hb : Bys8 B w (.slice A m c) xs)
    (h : ∀ w', At 76 w' g (nums .u8 64 fun j => if j < min 64 xs.length then xs.getD j 0 else f j) → w.grownBy w' (some g) → wpList Tryd.prog ops Q rest (a.put o.dst (.int .i64 ((min 64 xs.length : Nat) : Int))) w') : wpList Tryd.prog ops Q (o :: rest) a w := by
  obtain ⟨w', hrun, h1, h2⟩ := run_copy_mblk o.type w g 0 dCap f (by decide) hg B A m c xs hb
  simp only [Nat.sub_zero, Nat.zero_add, Nat.zero_le, true_and] at hrun h1
  refine wpList_plain hgd fun K hK => ?_
  unfold Oper.wp execOp
  simp only [ho, resolve, invoke, builtin, Sem.run_bind, Sem.run_pure, Result.andThen_ok, List.map_toArray, List.map_cons, List.map_nil, hd, hx, hrun]
  exact hK _ _ (h w' h1 h2)
end Go.Proofs.YtkhhejkemkldgaaDoor
