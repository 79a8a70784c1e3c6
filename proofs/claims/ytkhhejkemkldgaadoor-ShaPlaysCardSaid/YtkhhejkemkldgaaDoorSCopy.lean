/- Reading and writing whole arrays in a fence; slices of a block; copy into a block. -/
import Derived.Test.YtkhhejkemkldgaaDoorSRow
import Derived.Test.YtkhhejkemkldgaaDoorS8
import Derived.Test.YtkhhejkemkldgaaDoorSStill
import Derived.Laws.IdiomCopy
import Derived.Laws.Slices
set_option linter.unusedVariables false
namespace Go.Proofs.YtkhhejkemkldgaaDoor
open Go.RowKit Go.Shelf
/-- One operation in a fence that shuts nothing out, told by its run. -/
theorem wpListIn_val {F : Fence} {n : Nat} {w w' : World} {ops : Array Oper} {rest : List Oper} {o : Oper} {a : Act} {v : Value} {Q : Exit → Act → World → Prop} (hF : ∀ f, F.fn f) (hgd : o.guard = none) (hnd : ∀ c, o.op ≠ .defer c)
    (hrun : (execOp a.eval o).run Tryd.prog w = .ok (.value v) w') (h : wpListIn F n Tryd.prog ops Q rest (a.put o.dst v) w') : wpListIn F n Tryd.prog ops Q (o :: rest) a w := by
  refine wpListIn_plain hgd fun K hK => ?_
  unfold Oper.wpIn
  refine ⟨fun f _ => hF f, ?_⟩
  rw [Oper.semAt_plain F _ _ hnd, hrun]
  exact hK _ _ h
theorem wpListIn_skip {F : Fence} {n : Nat} {w w' : World} {ops : Array Oper} {rest : List Oper} {o : Oper} {a : Act} {Q : Exit → Act → World → Prop} (hF : ∀ f, F.fn f) (hgd : o.guard = none) (hnd : ∀ c, o.op ≠ .defer c)
    (hrun : (execOp a.eval o).run Tryd.prog w = .ok .skip w') (h : wpListIn F n Tryd.prog ops Q rest (a.put o.dst undef) w') : wpListIn F n Tryd.prog ops Q (o :: rest) a w := by
  refine wpListIn_plain hgd fun K hK => ?_
  unfold Oper.wpIn
  refine ⟨fun f _ => hF f, ?_⟩
  rw [Oper.semAt_plain F _ _ hnd, hrun]
  exact hK _ _ h
theorem load_block_in {F : Fence} {n : Nat} {w : World} {ops : Array Oper} {rest : List Oper} {o : Oper} {a : Act} {Q : Exit → Act → World → Prop} {x : Operand} {g : Nat} {f : Nat → Int} (hF : ∀ f, F.fn f) (hg : At 29 w g (nums .u8 64 f))
    (hgd : o.guard = none) (ho : o.op = .load 29 x) (hx : a.eval x = .pointer (some ⟨g, 0, none⟩))
    (h : wpListIn F n Tryd.prog ops Q rest (a.put o.dst (.agg (nums .u8 64 f))) w) : wpListIn F n Tryd.prog ops Q (o :: rest) a w :=
  wpListIn_val hF hgd (by rw [ho]; intro c hc; cases hc) (by
    unfold execOp
    simp only [ho, hx, Instr.loadAt, Instr.sureAddr, Sem.run_bind, Sem.run_pure, Result.andThen_ok, run_loadVar_row w g _ 29 _ _ _ hg Tryd.underlying29 rfl (size_block f)]) h
theorem store_block_in {F : Fence} {n : Nat} {w : World} {ops : Array Oper} {rest : List Oper} {o : Oper} {a : Act} {Q : Exit → Act → World → Prop} {x y : Operand} {g : Nat} {f f' : Nat → Int} (hF : ∀ f, F.fn f) (hg : At 29 w g (nums .u8 64 f'))
    (hgd : o.guard = none) (ho : o.op = .store 29 x y) (hx : a.eval x = .pointer (some ⟨g, 0, none⟩)) (hy : a.eval y = .agg (nums .u8 64 f))
    (h : wpListIn F n Tryd.prog ops Q rest (a.put o.dst undef) (w.setRow g (nums .u8 64 f))) : wpListIn F n Tryd.prog ops Q (o :: rest) a w := by
  refine wpListIn_skip (w' := w.setRow g (nums .u8 64 f)) hF hgd (by rw [ho]; intro c hc; cases hc) ?_ h
  unfold execOp
  have := run_storeVar_row (P := Tryd.prog) w g 29 29 (nums .u8 64 f') (nums .u8 64 f) hg (size_block f) (by rw [nums_size, nums_size]) (nums_one .u8 64 f)
  simp only [ho, hx, hy, Instr.storeAt, Instr.sureAddr, Sem.run_bind, Sem.run_pure, Result.andThen_ok, this]
theorem size_u8 : (Tryd.prog.info? 5).map (·.size) = some 1 := by kernel_rfl
theorem sizeOf_u8 (w : World) : (sizeOf 5).run Tryd.prog w = .ok 1 w := by kernel_rfl
/-- next[o:] -/
theorem slice_next (g o : Nat) (ho : o < 64) (w : World) : (Instr.sliceAt 29 (.pointer (some ⟨g, 0, none⟩)) (some (.int .i64 (o : Int))) none none).run Tryd.prog w = .ok (.slice (some ⟨g, o, none⟩) (64 - o) (64 - o)) w := by
  have h := run_sliceAt_array_l (P := Tryd.prog) w 29 ⟨g, 0, none⟩ (by kernel_rfl) .i64 (o : Int) (by omega) (by rw [show Tryd.prog.arrayLen 29 = 64 by kernel_rfl]; omega)
  rw [h, show Tryd.prog.elem 29 = 5 by kernel_rfl, sizeOf_u8, show Tryd.prog.arrayLen 29 = 64 by kernel_rfl]
  simp only [Result.andThen, slicedAt, Int.toNat_natCast]
  rw [if_neg (by omega), Nat.mul_one, Addr.add_mid, Nat.zero_add]
/-- b[k:] -/
theorem slice_from (A : Option Addr) (len cap k : Nat) (hk : k ≤ len) (hcp : len ≤ cap) : ∃ A' c', (∀ w, (Instr.slice 33 (.slice A len cap) (some (.int .i64 (k : Int))) none none).run Tryd.prog w = .ok (.slice A' (len - k) c') w) ∧ (∀ w, (Instr.sliceAt 33 (.slice A len cap) (some (.int .i64 (k : Int))) none none).run Tryd.prog w = .ok (.slice A' (len - k) c') w) ∧
    ∀ B W xs, Bys8 B W (.slice A len cap) xs → Bys8 B W (.slice A' (len - k) c') (xs.drop k) := by
  have h1 : ∀ w, (Instr.slice 33 (.slice A len cap) (some (.int .i64 (k : Int))) none none).run Tryd.prog w = .ok (.slice (if cap = k then A else A.map (·.add k)) (len - k) (cap - k)) w := fun w => by
    rw [run_slice_l w 33 A len cap (by kernel_rfl) .i64 (k : Int) (by omega) (by omega), show Tryd.prog.elem 33 = 5 by kernel_rfl, sizeOf_u8]
    simp only [Result.andThen, sliced, Int.toNat_natCast, Nat.mul_one]
  refine ⟨_, _, h1, fun w => by rw [run_sliceAt_slice w 33 _ _ _ _ (by kernel_rfl)]; exact h1 w, fun B W xs h => ?_⟩
  obtain ⟨hr, h⟩ := h
  refine ⟨fun x hx => hr x (List.mem_of_mem_drop hx), ?_⟩
  rcases h with ⟨rfl, a, c, e⟩ | ⟨b, off, c, e, hb, hc⟩
  · cases e; exact .inl ⟨by simp, _, _, by rw [Nat.zero_sub]⟩
  · cases e
    rcases Nat.lt_or_ge k xs.length with hlt | hge
    · refine .inr ⟨b, off + k, cap - k, ?_, hb, fun j hj => ?_⟩
      · rw [if_neg (show ¬ cap = k by omega), List.length_drop]; simp [Addr.add_mid]
      · rw [List.length_drop] at hj
        have := hc (k + j) (by omega)
        rw [Nat.add_assoc, this]; simp [List.getD]
    · exact .inl ⟨List.drop_eq_nil_of_le hge, _, _, by rw [show xs.length - k = 0 by omega]⟩
theorem grown_setCell (w : World) (g o : Nat) (v : Value) : w.grownBy (w.setCell ⟨g, o, none⟩ v) (some g) :=
  ⟨rfl, rfl, rfl, by simp, fun k _ hk => heap_setCell_other w ⟨g, o, none⟩ k v (fun e => hk (by rw [e]))⟩
theorem grown_trans {a b c : World} {row : Option Nat} (h : a.grownBy b row) (k : b.grownBy c row) : a.grownBy c row :=
  ⟨k.os.trans h.os, k.tape.trans h.tape, k.output.trans h.output, Nat.le_trans h.size k.size, fun j hj hn => (k.block j (Nat.lt_of_lt_of_le hj h.size) hn).trans (h.block j hj hn)⟩
theorem grown_setCells (g : Nat) : ∀ (vs : List Value) (o : Nat) (w : World), w.grownBy (w.setCells g o vs) (some g)
  | [], _, w => World.grownBy.refl w _
  | v :: vs, o, w => grown_trans (grown_setCell w g o v) (grown_setCells g vs (o + 1) _)
theorem At.setCells {T : TypeId} {g n : Nat} : ∀ (xs : List Int) (o : Nat) (f : Nat → Int) (w : World), o + xs.length ≤ n → At T w g (nums .u8 n f) → At T (w.setCells g o (xs.map (Value.int .u8))) g (nums .u8 n fun j => if o ≤ j ∧ j < o + xs.length then xs.getD (j - o) 0 else f j)
  | [], o, f, w, _, h => h.like (by intro j hj; rw [if_neg (by simp)])
  | x :: xs, o, f, w, hl, h => by
    simp only [List.length_cons] at hl
    have := At.setCells xs (o + 1) _ _ (by omega) (h.put o x (by omega))
    refine this.like ?_
    intro j hj
    simp only [List.length_cons]
    by_cases h1 : j = o
    · subst h1
      rw [if_neg (by omega), if_pos rfl, if_pos (by omega)]
      simp
    · by_cases h2 : o + 1 ≤ j ∧ j < o + 1 + xs.length
      · rw [if_pos h2, if_pos (by omega), show j - o = j - (o + 1) + 1 by omega]
        simp
      · rw [if_neg h2, if_neg h1, if_neg (by omega)]
/-- copy into a block, told by its run. -/
theorem run_copy_block (ty : TypeId) (w : World) (g o dCap : Nat) (f : Nat → Int) (ho : o ≤ 64) (hg : At 29 w g (nums .u8 64 f)) (B : Nat) (A : Option Addr) (m c : Nat) (xs : List Int) (hb : Bys8 B w (.slice A m c) xs) :
    ∃ w', (Builtin.copy_ #[33, 33] ty #[.slice (some ⟨g, o, none⟩) (64 - o) dCap, .slice A m c]).run Tryd.prog w = .ok (.int .i64 ((min (64 - o) xs.length : Nat) : Int)) w' ∧
      At 29 w' g (nums .u8 64 fun j => if o ≤ j ∧ j < o + min (64 - o) xs.length then xs.getD (j - o) 0 else f j) ∧ w.grownBy w' (some g) := by
  obtain ⟨hr, ⟨rfl, a, c', e⟩ | ⟨b, off, c', e, hB, hc⟩⟩ := hb
  · cases e
    refine ⟨w, ?_, hg.like (fun j hj => by rw [if_neg (by simp)]), World.grownBy.refl w _⟩
    rw [run_copy_none w 33 33 ty 5 _ A _ _ 0 c Tryd.underlying33 size_u8 (by simp)]
    simp [goInt]
  · cases e
    have hlen : (((xs.take (64 - o)).map (Value.int .u8)) : List Value).length = Nat.min xs.length (64 - o) := by
      simp [Nat.min_comm, Nat.min_def]
    have hl2 : (xs.take (64 - o)).length = min (64 - o) xs.length := by simp
    have hrun := run_copy_cells (P := Tryd.prog) w 33 33 ty 5 g o (64 - o) dCap ⟨b, off, none⟩ xs.length c ((xs.take (64 - o)).map (Value.int .u8)) Tryd.underlying33 size_u8 hlen
      (fun j v hv => by
        rw [Addr.add_mid]
        simp only [List.getElem?_map, Option.map_eq_some_iff] at hv
        obtain ⟨x, hx, rfl⟩ := hv
        have hj : j < xs.length := by
          have := (List.getElem?_eq_some_iff.1 hx).1; simp at this; omega
        have hj2 : j < 64 - o := by
          have := (List.getElem?_eq_some_iff.1 hx).1; simp at this; omega
        rw [List.getElem?_take_of_lt hj2] at hx
        rw [hc j hj]; simp [List.getD, hx])
      (fun j hj => by rw [hg.num (o + j) (by simp at hj; omega)]; rfl) (fun j _ => hg.free _)
      (fun v hv => by simp only [List.mem_map] at hv; obtain ⟨x, _, rfl⟩ := hv; rfl)
    refine ⟨_, hrun.trans ?_, (At.setCells (xs.take (64 - o)) o f w (by rw [hl2]; omega) hg).like (fun j hj => ?_), grown_setCells g _ o w⟩
    · rw [hlen, show Nat.min xs.length (64 - o) = min (64 - o) xs.length from Nat.min_comm _ _]; rfl
    · rw [hl2]
      by_cases h : o ≤ j ∧ j < o + min (64 - o) xs.length
      · rw [if_pos h, if_pos h, List.getD, List.getElem?_take_of_lt (by omega)]; rfl
      · rw [if_neg h, if_neg h]
theorem copy_block_in {F : Fence} {n : Nat} {w : World} {ops : Array Oper} {rest : List Oper} {o : Oper} {a : Act} {Q : Exit → Act → World → Prop} (hF : ∀ f, F.fn f) (hgd : o.guard = none) (d x : Operand)
    (ho : o.op = .call { callee := .builtin .copy, args := #[d, x], argTypes := #[33, 33] }) (g k dCap : Nat) (f : Nat → Int) (hk : k ≤ 64) (hd : a.eval d = .slice (some ⟨g, k, none⟩) (64 - k) dCap) (hg : At 29 w g (nums .u8 64 f))
    (B : Nat) (A : Option Addr) (m c : Nat) (xs : List Int) (hx : a.eval x = .slice A m c) (hb : Bys8 B w (.slice A m c) xs)
    (h : ∀ w', At 29 w' g (nums .u8 64 fun j => if k ≤ j ∧ j < k + min (64 - k) xs.length then xs.getD (j - k) 0 else f j) → w.grownBy w' (some g) → wpListIn F n Tryd.prog ops Q rest (a.put o.dst (.int .i64 ((min (64 - k) xs.length : Nat) : Int))) w') : wpListIn F n Tryd.prog ops Q (o :: rest) a w := by
  obtain ⟨w', hrun, h1, h2⟩ := run_copy_block o.type w g k dCap f hk hg B A m c xs hb
  refine wpListIn_val hF hgd (by rw [ho]; intro c hc; cases hc) (v := .int .i64 ((min (64 - k) xs.length : Nat) : Int)) (w' := w') ?_ (h w' h1 h2)
  unfold execOp
  simp only [ho, resolve, invoke, builtin, Sem.run_bind, Sem.run_pure, Result.andThen_ok, List.map_toArray, List.map_cons, List.map_nil, hd, hx, hrun]
end Go.Proofs.YtkhhejkemkldgaaDoor
