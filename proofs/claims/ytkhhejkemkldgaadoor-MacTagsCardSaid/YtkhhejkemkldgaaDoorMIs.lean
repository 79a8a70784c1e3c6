/- The contracts of a Mac's Is, and of Right. -/
import Derived.Test.YtkhhejkemkldgaaDoorMCopy
set_option linter.unusedVariables false
set_option linter.unusedSimpArgs false
namespace Go.Proofs.YtkhhejkemkldgaaDoor
open Go.RowKit Go.Shelf
def sameH (f g : Nat → Int) : Bool := (List.range 32).all fun j => f j == g j
theorem sameH_refl (f : Nat → Int) : sameH f f = true := by simp [sameH]
theorem eq_items2 (T E : TypeId) (k : IntKind) (n : Nat) (f g : Nat → Int) (d : Nat) (hE : Tryd.prog.plainKey E = true) (hs : Tryd.prog.cellsOf E = 1) (hu : Tryd.prog.underlying E = some (.int k)) (w : World) : ∀ is : List Nat, (∀ j ∈ is, j < n) → (Op.eqItems (d + 1) E (Tryd.prog.cellsOf E) (nums k n f) (nums k n g) is).run Tryd.prog w = .ok (is.all fun j => f j == g j) w
  | [], _ => by simp [Op.eqItems]
  | j :: is, h => by
    have h1 := run_part_plain (P := Tryd.prog) (w := w) hE (nums_get k n f j (h j (by simp)))
    have h3 := run_part_plain (P := Tryd.prog) (w := w) hE (nums_get k n g j (h j (by simp)))
    have h2 := eq_items2 T E k n f g d hE hs hu w is (fun i hi => h i (by simp [hi]))
    rw [hs] at h2 ⊢
    simp only [Op.eqItems, Sem.run_bind, Nat.mul_one, h1, h3, Result.andThen_ok, run_equalIn_int w d E k k (f j) (g j) hu]
    rw [List.all_cons]
    cases hfg : (f j == g j) <;> simp [h2]
theorem eq_hash2 (f g : Nat → Int) (w : World) : (Op.equalIn 10000 38 (.agg (nums .u8 32 f)) (.agg (nums .u8 32 g))).run Tryd.prog w = .ok (sameH f g) w := by
  have hi : (Tryd.prog.info? 5).isSome = true := by kernel_rfl
  obtain ⟨i, hi⟩ := Option.isSome_iff_exists.1 hi
  rw [run_equalIn_array w 9999 _ _ Tryd.underlying38 hi]
  exact eq_items2 38 5 .u8 32 f g 9998 (by kernel_rfl) (by kernel_rfl) Tryd.underlying5 w _ (fun j hj => by simpa using hj)
theorem made_true (M : Nat) (is os : List Int) (ho : 0 < os.length) (w : World) (hM : MacAt w M is os) :
    Calls Tryd.prog 40 #[.pointer (some ⟨M, 0, none⟩)] w fun e w' => e = .returned (.bool true) ∧ w = w' := by
  have := made_any M is os w hM
  rw [decide_eq_true ho] at this
  exact this
theorem exec_eqhash2 {o : Oper} {a : Act} {x y : Operand} {f g : Nat → Int} {w : World} (ho : o.op = .binOp .eql 38 x y 38) (hx : a.eval x = .agg (nums .u8 32 f)) (hy : a.eval y = .agg (nums .u8 32 g)) : (execOp a.eval o).run Tryd.prog w = .ok (.value (.bool (sameH f g))) w := by
  have e := eq_hash2 f g w
  unfold execOp
  simp only [ho, hx, hy]
  go_simp
set_option maxHeartbeats 1000000 in
theorem region_mis_yes {id : Nat} {Q : Exit → Act → World → Prop} {L0 : List Oper} {ops : Array Oper} (hops : L0.toArray = ops) (hlen : ops.size = 9) (hsel : Region.noSelect ops = true) (o0 o1 o2 o3 o4 o5 o6 o7 o8 : Oper)
    (p0 : ops[0]? = some o0) (e0 : o0.op = .move (.tmp 0)) (d0 : o0.dst = some 5) (g0 : o0.guard = none)
    (p1 : ops[1]? = some o1) (e1 : o1.op = .call { callee := .value (.func 40), args := #[.tmp 5], argTypes := #[44] }) (d1 : o1.dst = some 6) (g1 : o1.guard = none)
    (p2 : ops[2]? = some o2) (e2 : o2.op = .move (.tmp 6)) (d2 : o2.dst = some 7) (g2 : o2.guard = none)
    (p3 : ops[3]? = some o3) (e3 : o3.op = .move (.tmp 0)) (d3 : o3.dst = some 8) (g3 : o3.guard = some (2, true))
    (p4 : ops[4]? = some o4) (e4 : o4.op = .call { callee := .value (.func 20), args := #[.tmp 8], argTypes := #[44] }) (d4 : o4.dst = some 9) (g4 : o4.guard = some (2, true))
    (p5 : ops[5]? = some o5) (e5 : o5.op = .load 38 (.tmp 3)) (d5 : o5.dst = some 10) (g5 : o5.guard = some (2, true))
    (p6 : ops[6]? = some o6) (e6 : o6.op = .binOp .eql 38 (.tmp 9) (.tmp 10) 38) (d6 : o6.dst = some 11) (g6 : o6.guard = some (2, true))
    (p7 : ops[7]? = some o7) (e7 : o7.op = .pick (.tmp 7) (.tmp 11) (.const (.bool false))) (d7 : o7.dst = some 12) (g7 : o7.guard = none)
    (p8 : ops[8]? = some o8) (e8 : o8.op = .assign (.tmp 12)) (d8 : o8.dst = some 4) (g8 : o8.guard = none)
    (f0 : Region.free .any ops (LR 9 []) 0 = true) (c0 : (Region.ready .any ops (LR 9 [])).contains 0 = true)
    (r1 : Region.ready .any ops (LR 9 [0]) = [1])
    (f2 : Region.free .any ops (LR 9 [0, 1]) 2 = true) (c2 : (Region.ready .any ops (LR 9 [0, 1])).contains 2 = true)
    (f3 : Region.free .any ops (LR 9 [0, 1, 2]) 3 = true) (c3 : (Region.ready .any ops (LR 9 [0, 1, 2])).contains 3 = true)
    (f5 : Region.free .any ops (LR 9 [0, 1, 2, 3]) 5 = true) (c5 : (Region.ready .any ops (LR 9 [0, 1, 2, 3])).contains 5 = true)
    (r4 : Region.ready .any ops (LR 9 [0, 1, 2, 3, 5]) = [4])
    (f6 : Region.free .any ops (LR 9 [0, 1, 2, 3, 4, 5]) 6 = true) (c6 : (Region.ready .any ops (LR 9 [0, 1, 2, 3, 4, 5])).contains 6 = true)
    (f7 : Region.free .any ops (LR 9 [0, 1, 2, 3, 4, 5, 6]) 7 = true) (c7 : (Region.ready .any ops (LR 9 [0, 1, 2, 3, 4, 5, 6])).contains 7 = true)
    (f8 : Region.free .any ops (LR 9 [0, 1, 2, 3, 4, 5, 6, 7]) 8 = true) (c8 : (Region.ready .any ops (LR 9 [0, 1, 2, 3, 4, 5, 6, 7])).contains 8 = true)
    (rN : Region.ready .any ops (LR 9 [0, 1, 2, 3, 4, 5, 6, 7, 8]) = [])
    (a : Act) (ha : a.tmps.size = 13) (B : Nat) (is os : List Int) (gg : Nat → Int) (G : Nat) (W : World) (hT : Tabs W) (hi : is.length ≤ 100000000000) (ho : 0 < os.length) (hol : os.length ≤ 1000) (hM : MacAt W B is os) (hG : At 38 W G (nums .u8 32 gg)) (ha0 : a.eval (.tmp 0) = .pointer (some ⟨B, 0, none⟩)) (ha3 : a.eval (.tmp 3) = .pointer (some ⟨G, 0, none⟩))
    (fin : ∀ X, Below W.heap.size W X → Q .normal ((((((((((a.put (some 5) (.pointer (some ⟨B, 0, none⟩))).put (some 6) (.bool true)).put (some 7) (.bool true)).put (some 8) (.pointer (some ⟨B, 0, none⟩))).put (some 10) (.agg (nums .u8 32 gg))).put (some 9) (.agg (nums .u8 32 (bf (sha (os ++ sha is)))))).put (some 11) (.bool (sameH (bf (sha (os ++ sha is))) gg))).put (some 12) (.bool (sameH (bf (sha (os ++ sha is))) gg))).put (some 4) (.bool (sameH (bf (sha (os ++ sha is))) gg)))) X) :
    (Code.region id L0.toArray true).wp Tryd.prog Q a W := by
  subst hops
  refine wp_mono (Q := plainQ Q) (wp_region_held (S := fun X => At 38 X G (nums .u8 32 gg)) (by kernel_rfl) ?_) (fun e a w h => by obtain ⟨rfl, h⟩ := h; exact h)
  change wpAnyH _ _ _ _ _ L0.toArray.size _ _ W.drew
  rw [hlen]
  rw [show Array.replicate 9 false = LR 9 [] from by decide]
  refine heldS_take (i := 0) (v := .pointer (some ⟨B, 0, none⟩)) p0 hsel f0 c0 (wanted_none g0) (fun X hX => exec_move e0 (by simp [eval_putT, size_putT, ha, ha0, ha3])) hG ?_
  rw [show (LR 9 []).setIfInBounds 0 true = (LR 9 [0]) from by decide]
  rw [d0]
  refine heldS_one p1 r1 (wanted_none g1) ?_
  refine wp_call (r := .bool true) e1 (by simp [eval_putT, size_putT, ha, ha0, ha3]) (enters_of Tryd.func40 (by kernel_rfl) rfl) (made_true B is os ho W.drew hM) ?_
  rintro X1 rfl
  refine ⟨hG, ?_⟩
  rw [show (LR 9 [0]).setIfInBounds 1 true = (LR 9 [0, 1]) from by decide]
  rw [d1]
  refine heldS_take (i := 2) (v := .bool true) p2 hsel f2 c2 (wanted_none g2) (fun X hX => exec_move e2 (by simp [eval_putT, size_putT, ha, ha0, ha3])) hG ?_
  rw [show (LR 9 [0, 1]).setIfInBounds 2 true = (LR 9 [0, 1, 2]) from by decide]
  rw [d2]
  refine heldS_take (i := 3) (v := .pointer (some ⟨B, 0, none⟩)) p3 hsel f3 c3 (wanted_some g3 p2 d2 (by simp [size_putT, ha]) (by simp [eval_putT, size_putT, ha, ha0, ha3])) (fun X hX => exec_move e3 (by simp [eval_putT, size_putT, ha, ha0, ha3])) hG ?_
  rw [show (LR 9 [0, 1, 2]).setIfInBounds 3 true = (LR 9 [0, 1, 2, 3]) from by decide]
  rw [d3]
  refine heldS_take (i := 5) (v := .agg (nums .u8 32 gg)) p5 hsel f5 c5 (wanted_some g5 p2 d2 (by simp [size_putT, ha]) (by simp [eval_putT, size_putT, ha, ha0, ha3])) (fun X hX => exec_loadhash e5 (by simp [eval_putT, size_putT, ha, ha0, ha3]) hX) hG ?_
  rw [show (LR 9 [0, 1, 2, 3]).setIfInBounds 5 true = (LR 9 [0, 1, 2, 3, 5]) from by decide]
  rw [d5]
  refine heldS_one p4 r4 (wanted_some g4 p2 d2 (by simp [size_putT, ha]) (by simp [eval_putT, size_putT, ha, ha0, ha3])) ?_
  refine wp_call e4 (by simp [eval_putT, size_putT, ha, ha0, ha3]) (enters_of Tryd.func20 (by kernel_rfl) rfl) (msum_any B is os hi ho hol W.drew hT.drew hM) ?_
  intro X2 q2
  have hG2 : At 38 X2 G (nums .u8 32 gg) := hG.below hG.lt (Below.draw1 q2)
  refine ⟨hG2, ?_⟩
  rw [show (LR 9 [0, 1, 2, 3, 5]).setIfInBounds 4 true = (LR 9 [0, 1, 2, 3, 4, 5]) from by decide]
  rw [d4]
  refine heldS_take (i := 6) (v := .bool (sameH (bf (sha (os ++ sha is))) gg)) p6 hsel f6 c6 (wanted_some g6 p2 d2 (by simp [size_putT, ha]) (by simp [eval_putT, size_putT, ha, ha0, ha3])) (fun X hX => exec_eqhash2 (f := bf (sha (os ++ sha is))) (g := gg) e6 (by simp [eval_putT, size_putT, ha, ha0, ha3]) (by simp [eval_putT, size_putT, ha, ha0, ha3])) hG2 ?_
  rw [show (LR 9 [0, 1, 2, 3, 4, 5]).setIfInBounds 6 true = (LR 9 [0, 1, 2, 3, 4, 5, 6]) from by decide]
  rw [d6]
  refine heldS_take (i := 7) (v := .bool (sameH (bf (sha (os ++ sha is))) gg)) p7 hsel f7 c7 (wanted_none g7) (fun X hX => exec_pick (b := true) (v := .bool (sameH (bf (sha (os ++ sha is))) gg)) e7 (by simp [eval_putT, size_putT, ha, ha0, ha3]) (by simp [eval_putT, size_putT, ha, ha0, ha3]) rfl) hG2 ?_
  rw [show (LR 9 [0, 1, 2, 3, 4, 5, 6]).setIfInBounds 7 true = (LR 9 [0, 1, 2, 3, 4, 5, 6, 7]) from by decide]
  rw [d7]
  refine heldS_take (i := 8) (v := .bool (sameH (bf (sha (os ++ sha is))) gg)) p8 hsel f8 c8 (wanted_none g8) (fun X hX => exec_assign e8 (by simp [eval_putT, size_putT, ha, ha0, ha3])) hG2 ?_
  rw [show (LR 9 [0, 1, 2, 3, 4, 5, 6, 7]).setIfInBounds 8 true = (LR 9 [0, 1, 2, 3, 4, 5, 6, 7, 8]) from by decide]
  rw [d8]
  exact wpAnyH_done rN ⟨rfl, fin X2 (Below.draw1 q2)⟩ _
set_option maxHeartbeats 1000000 in
theorem region_mis_nil {id : Nat} {Q : Exit → Act → World → Prop} {L0 : List Oper} {ops : Array Oper} (hops : L0.toArray = ops) (hlen : ops.size = 9) (hsel : Region.noSelect ops = true) (o0 o1 o2 o3 o4 o5 o6 o7 o8 : Oper)
    (p0 : ops[0]? = some o0) (e0 : o0.op = .move (.tmp 0)) (d0 : o0.dst = some 5) (g0 : o0.guard = none)
    (p1 : ops[1]? = some o1) (e1 : o1.op = .call { callee := .value (.func 40), args := #[.tmp 5], argTypes := #[44] }) (d1 : o1.dst = some 6) (g1 : o1.guard = none)
    (p2 : ops[2]? = some o2) (e2 : o2.op = .move (.tmp 6)) (d2 : o2.dst = some 7) (g2 : o2.guard = none)
    (p3 : ops[3]? = some o3) (e3 : o3.op = .move (.tmp 0)) (d3 : o3.dst = some 8) (g3 : o3.guard = some (2, true))
    (p4 : ops[4]? = some o4) (e4 : o4.op = .call { callee := .value (.func 20), args := #[.tmp 8], argTypes := #[44] }) (d4 : o4.dst = some 9) (g4 : o4.guard = some (2, true))
    (p5 : ops[5]? = some o5) (e5 : o5.op = .load 38 (.tmp 3)) (d5 : o5.dst = some 10) (g5 : o5.guard = some (2, true))
    (p6 : ops[6]? = some o6) (e6 : o6.op = .binOp .eql 38 (.tmp 9) (.tmp 10) 38) (d6 : o6.dst = some 11) (g6 : o6.guard = some (2, true))
    (p7 : ops[7]? = some o7) (e7 : o7.op = .pick (.tmp 7) (.tmp 11) (.const (.bool false))) (d7 : o7.dst = some 12) (g7 : o7.guard = none)
    (p8 : ops[8]? = some o8) (e8 : o8.op = .assign (.tmp 12)) (d8 : o8.dst = some 4) (g8 : o8.guard = none)
    (f0 : Region.free .any ops (LR 9 []) 0 = true) (c0 : (Region.ready .any ops (LR 9 [])).contains 0 = true)
    (r1 : Region.ready .any ops (LR 9 [0]) = [1])
    (f2 : Region.free .any ops (LR 9 [0, 1]) 2 = true) (c2 : (Region.ready .any ops (LR 9 [0, 1])).contains 2 = true)
    (f3 : Region.free .any ops (LR 9 [0, 1, 2]) 3 = true) (c3 : (Region.ready .any ops (LR 9 [0, 1, 2])).contains 3 = true)
    (f4 : Region.free .any ops (LR 9 [0, 1, 2, 3]) 4 = true) (c4 : (Region.ready .any ops (LR 9 [0, 1, 2, 3])).contains 4 = true)
    (f5 : Region.free .any ops (LR 9 [0, 1, 2, 3, 4]) 5 = true) (c5 : (Region.ready .any ops (LR 9 [0, 1, 2, 3, 4])).contains 5 = true)
    (f6 : Region.free .any ops (LR 9 [0, 1, 2, 3, 4, 5]) 6 = true) (c6 : (Region.ready .any ops (LR 9 [0, 1, 2, 3, 4, 5])).contains 6 = true)
    (f7 : Region.free .any ops (LR 9 [0, 1, 2, 3, 4, 5, 6]) 7 = true) (c7 : (Region.ready .any ops (LR 9 [0, 1, 2, 3, 4, 5, 6])).contains 7 = true)
    (f8 : Region.free .any ops (LR 9 [0, 1, 2, 3, 4, 5, 6, 7]) 8 = true) (c8 : (Region.ready .any ops (LR 9 [0, 1, 2, 3, 4, 5, 6, 7])).contains 8 = true)
    (rN : Region.ready .any ops (LR 9 [0, 1, 2, 3, 4, 5, 6, 7, 8]) = [])
    (a : Act) (ha : a.tmps.size = 13) (W : World) (ha0 : a.eval (.tmp 0) = .pointer none)
    (fin : Q .normal ((((((((((a.put (some 5) (.pointer none)).put (some 6) (.bool false)).put (some 7) (.bool false)).put (some 8) (undef)).put (some 9) (undef)).put (some 10) (undef)).put (some 11) (undef)).put (some 12) (.bool false)).put (some 4) (.bool false))) W.drew) :
    (Code.region id L0.toArray true).wp Tryd.prog Q a W := by
  subst hops
  refine wp_mono (Q := plainQ Q) (wp_region_held (S := fun _ => True) (by kernel_rfl) ?_) (fun e a w h => by obtain ⟨rfl, h⟩ := h; exact h)
  change wpAnyH _ _ _ _ _ L0.toArray.size _ _ W.drew
  rw [hlen]
  rw [show Array.replicate 9 false = LR 9 [] from by decide]
  refine heldS_take (i := 0) (v := .pointer none) p0 hsel f0 c0 (wanted_none g0) (fun X hX => exec_move e0 (by simp [eval_putT, size_putT, ha, ha0])) trivial ?_
  rw [show (LR 9 []).setIfInBounds 0 true = (LR 9 [0]) from by decide]
  rw [d0]
  refine heldS_one p1 r1 (wanted_none g1) ?_
  refine wp_call (r := .bool false) e1 (by simp [eval_putT, size_putT, ha, ha0]) (enters_of Tryd.func40 (by kernel_rfl) rfl) (made_nil W.drew) ?_
  rintro X1 rfl
  refine ⟨trivial, ?_⟩
  rw [show (LR 9 [0]).setIfInBounds 1 true = (LR 9 [0, 1]) from by decide]
  rw [d1]
  refine heldS_take (i := 2) (v := .bool false) p2 hsel f2 c2 (wanted_none g2) (fun X hX => exec_move e2 (by simp [eval_putT, size_putT, ha, ha0])) trivial ?_
  rw [show (LR 9 [0, 1]).setIfInBounds 2 true = (LR 9 [0, 1, 2]) from by decide]
  rw [d2]
  refine heldS_skip (i := 3) p3 hsel f3 c3 (unwanted (b' := false) g3 p2 d2 (by simp [eval_putT, size_putT, ha, ha0]) (by decide)) trivial ?_
  rw [show (LR 9 [0, 1, 2]).setIfInBounds 3 true = (LR 9 [0, 1, 2, 3]) from by decide]
  rw [d3]
  refine heldS_skip (i := 4) p4 hsel f4 c4 (unwanted (b' := false) g4 p2 d2 (by simp [eval_putT, size_putT, ha, ha0]) (by decide)) trivial ?_
  rw [show (LR 9 [0, 1, 2, 3]).setIfInBounds 4 true = (LR 9 [0, 1, 2, 3, 4]) from by decide]
  rw [d4]
  refine heldS_skip (i := 5) p5 hsel f5 c5 (unwanted (b' := false) g5 p2 d2 (by simp [eval_putT, size_putT, ha, ha0]) (by decide)) trivial ?_
  rw [show (LR 9 [0, 1, 2, 3, 4]).setIfInBounds 5 true = (LR 9 [0, 1, 2, 3, 4, 5]) from by decide]
  rw [d5]
  refine heldS_skip (i := 6) p6 hsel f6 c6 (unwanted (b' := false) g6 p2 d2 (by simp [eval_putT, size_putT, ha, ha0]) (by decide)) trivial ?_
  rw [show (LR 9 [0, 1, 2, 3, 4, 5]).setIfInBounds 6 true = (LR 9 [0, 1, 2, 3, 4, 5, 6]) from by decide]
  rw [d6]
  refine heldS_take (i := 7) (v := .bool false) p7 hsel f7 c7 (wanted_none g7) (fun X hX => exec_pick (b := false) (v := undef) (u := .bool false) e7 (by simp [eval_putT, size_putT, ha, ha0]) (by simp [eval_putT, size_putT, ha, ha0]) rfl) trivial ?_
  rw [show (LR 9 [0, 1, 2, 3, 4, 5, 6]).setIfInBounds 7 true = (LR 9 [0, 1, 2, 3, 4, 5, 6, 7]) from by decide]
  rw [d7]
  refine heldS_take (i := 8) (v := .bool false) p8 hsel f8 c8 (wanted_none g8) (fun X hX => exec_assign e8 (by simp [eval_putT, size_putT, ha, ha0])) trivial ?_
  rw [show (LR 9 [0, 1, 2, 3, 4, 5, 6, 7]).setIfInBounds 8 true = (LR 9 [0, 1, 2, 3, 4, 5, 6, 7, 8]) from by decide]
  rw [d8]
  exact wpAnyH_done rN ⟨rfl, fin⟩ _
set_option maxHeartbeats 1000000 in
theorem region_mright {id : Nat} {Q : Exit → Act → World → Prop} {L0 : List Oper} {ops : Array Oper} (hops : L0.toArray = ops) (hlen : ops.size = 6) (hsel : Region.noSelect ops = true) (o0 o1 o2 o3 o4 o5 : Oper)
    (p0 : ops[0]? = some o0) (e0 : o0.op = .move (.tmp 0)) (d0 : o0.dst = some 7) (g0 : o0.guard = none)
    (p1 : ops[1]? = some o1) (e1 : o1.op = .move (.tmp 1)) (d1 : o1.dst = some 8) (g1 : o1.guard = none)
    (p2 : ops[2]? = some o2) (e2 : o2.op = .call { callee := .value (.func 19), args := #[.tmp 7, .tmp 8], argTypes := #[33, 33] }) (d2 : o2.dst = some 9) (g2 : o2.guard = none)
    (p3 : ops[3]? = some o3) (e3 : o3.op = .load 38 (.tmp 5)) (d3 : o3.dst = some 10) (g3 : o3.guard = none)
    (p4 : ops[4]? = some o4) (e4 : o4.op = .binOp .eql 38 (.tmp 9) (.tmp 10) 38) (d4 : o4.dst = some 11) (g4 : o4.guard = none)
    (p5 : ops[5]? = some o5) (e5 : o5.op = .assign (.tmp 11)) (d5 : o5.dst = some 6) (g5 : o5.guard = none)
    (f0 : Region.free .any ops (LR 6 []) 0 = true) (c0 : (Region.ready .any ops (LR 6 [])).contains 0 = true)
    (f1 : Region.free .any ops (LR 6 [0]) 1 = true) (c1 : (Region.ready .any ops (LR 6 [0])).contains 1 = true)
    (f3 : Region.free .any ops (LR 6 [0, 1]) 3 = true) (c3 : (Region.ready .any ops (LR 6 [0, 1])).contains 3 = true)
    (r2 : Region.ready .any ops (LR 6 [0, 1, 3]) = [2])
    (f4 : Region.free .any ops (LR 6 [0, 1, 2, 3]) 4 = true) (c4 : (Region.ready .any ops (LR 6 [0, 1, 2, 3])).contains 4 = true)
    (f5 : Region.free .any ops (LR 6 [0, 1, 2, 3, 4]) 5 = true) (c5 : (Region.ready .any ops (LR 6 [0, 1, 2, 3, 4])).contains 5 = true)
    (rN : Region.ready .any ops (LR 6 [0, 1, 2, 3, 4, 5]) = [])
    (a : Act) (ha : a.tmps.size = 12) (A Bb : Option Addr) (ks xs : List Int) (ca cb : Nat) (gg : Nat → Int) (G : Nat) (W : World) (hT : Tabs W) (hc : ks.length ≤ ca) (hr : ks.length ≤ 1000000) (hd : xs.length ≤ cb) (hx : xs.length ≤ 1000000) (hk : Bys8 W.heap.size W (.slice A ks.length ca) ks) (hb : Bys8 W.heap.size W (.slice Bb xs.length cb) xs) (hG : At 38 W G (nums .u8 32 gg)) (ha0 : a.eval (.tmp 0) = .slice A ks.length ca) (ha1 : a.eval (.tmp 1) = .slice Bb xs.length cb) (ha5 : a.eval (.tmp 5) = .pointer (some ⟨G, 0, none⟩))
    (fin : ∀ X, Below W.heap.size W X → Q .normal (((((((a.put (some 7) (.slice A ks.length ca)).put (some 8) (.slice Bb xs.length cb)).put (some 10) (.agg (nums .u8 32 gg))).put (some 9) (.agg (nums .u8 32 (bf (tag ks xs))))).put (some 11) (.bool (sameH (bf (tag ks xs)) gg))).put (some 6) (.bool (sameH (bf (tag ks xs)) gg)))) X) :
    (Code.region id L0.toArray true).wp Tryd.prog Q a W := by
  subst hops
  refine wp_mono (Q := plainQ Q) (wp_region_held (S := fun X => At 38 X G (nums .u8 32 gg)) (by kernel_rfl) ?_) (fun e a w h => by obtain ⟨rfl, h⟩ := h; exact h)
  change wpAnyH _ _ _ _ _ L0.toArray.size _ _ W.drew
  rw [hlen]
  rw [show Array.replicate 6 false = LR 6 [] from by decide]
  refine heldS_take (i := 0) (v := .slice A ks.length ca) p0 hsel f0 c0 (wanted_none g0) (fun X hX => exec_move e0 (by simp [eval_putT, size_putT, ha, ha0, ha1, ha5])) hG ?_
  rw [show (LR 6 []).setIfInBounds 0 true = (LR 6 [0]) from by decide]
  rw [d0]
  refine heldS_take (i := 1) (v := .slice Bb xs.length cb) p1 hsel f1 c1 (wanted_none g1) (fun X hX => exec_move e1 (by simp [eval_putT, size_putT, ha, ha0, ha1, ha5])) hG ?_
  rw [show (LR 6 [0]).setIfInBounds 1 true = (LR 6 [0, 1]) from by decide]
  rw [d1]
  refine heldS_take (i := 3) (v := .agg (nums .u8 32 gg)) p3 hsel f3 c3 (wanted_none g3) (fun X hX => exec_loadhash e3 (by simp [eval_putT, size_putT, ha, ha0, ha1, ha5]) hX) hG ?_
  rw [show (LR 6 [0, 1]).setIfInBounds 3 true = (LR 6 [0, 1, 3]) from by decide]
  rw [d3]
  refine heldS_one p2 r2 (wanted_none g2) ?_
  refine wp_call e2 (by simp [eval_putT, size_putT, ha, ha0, ha1, ha5]) (enters_of Tryd.func19 (by kernel_rfl) rfl) (mof_any A ks ca Bb xs cb hc hr hd hx W.drew hT.drew hk hb) ?_
  intro X2 q2
  have hG2 : At 38 X2 G (nums .u8 32 gg) := hG.below hG.lt (Below.draw1 q2)
  refine ⟨hG2, ?_⟩
  rw [show (LR 6 [0, 1, 3]).setIfInBounds 2 true = (LR 6 [0, 1, 2, 3]) from by decide]
  rw [d2]
  refine heldS_take (i := 4) (v := .bool (sameH (bf (tag ks xs)) gg)) p4 hsel f4 c4 (wanted_none g4) (fun X hX => exec_eqhash2 (f := bf (tag ks xs)) (g := gg) e4 (by simp [eval_putT, size_putT, ha, ha0, ha1, ha5]) (by simp [eval_putT, size_putT, ha, ha0, ha1, ha5])) hG2 ?_
  rw [show (LR 6 [0, 1, 2, 3]).setIfInBounds 4 true = (LR 6 [0, 1, 2, 3, 4]) from by decide]
  rw [d4]
  refine heldS_take (i := 5) (v := .bool (sameH (bf (tag ks xs)) gg)) p5 hsel f5 c5 (wanted_none g5) (fun X hX => exec_assign e5 (by simp [eval_putT, size_putT, ha, ha0, ha1, ha5])) hG2 ?_
  rw [show (LR 6 [0, 1, 2, 3, 4]).setIfInBounds 5 true = (LR 6 [0, 1, 2, 3, 4, 5]) from by decide]
  rw [d5]
  exact wpAnyH_done rN ⟨rfl, fin X2 (Below.draw1 q2)⟩ _
set_option maxRecDepth 100000 in
set_option maxHeartbeats 1000000 in
theorem mis_any (B : Nat) (is os : List Int) (gg : Nat → Int) (hi : is.length ≤ 100000000000) (ho : 0 < os.length) (hol : os.length ≤ 1000) (w : World) (hT : Tabs w) (hM : MacAt w B is os) :
    Calls Tryd.prog 21 #[.pointer (some ⟨B, 0, none⟩), .agg (nums .u8 32 gg)] w fun e w' => e = .returned (.bool (sameH (bf (sha (os ++ sha is))) gg)) ∧ Below w.heap.size w w' := by
  have B1 := (Below.refl _ w).alloc (Nat.le_refl _) (.cells (nums .u8 32 gg) 38)
  have HG := Lib.hid (At.new 38 w (nums .u8 32 gg))
  have HT := Lib.hid (hT.below hT.lt B1)
  have HM := Lib.hid (hM.below B1 hM.lt)
  have HB1 := Lib.hid B1
  clear hM hT B1
  go_enter Tryd.func21, Tryd.ntmps21
  go_wp2_with fail
  refine region_mis_yes rfl rfl (by kernel_rfl) _ _ _ _ _ _ _ _ _ rfl rfl rfl rfl rfl rfl rfl rfl rfl rfl rfl rfl rfl rfl rfl rfl rfl rfl rfl rfl rfl rfl rfl rfl rfl rfl rfl rfl rfl rfl rfl rfl rfl rfl rfl rfl (by kernel_rfl) (by kernel_rfl) (by kernel_rfl) (by kernel_rfl) (by kernel_rfl) (by kernel_rfl) (by kernel_rfl) (by kernel_rfl) (by kernel_rfl) (by kernel_rfl) (by kernel_rfl) (by kernel_rfl) (by kernel_rfl) (by kernel_rfl) (by kernel_rfl) (by kernel_rfl) (by kernel_rfl) _ rfl B is os gg w.heap.size _ HT.out hi ho hol HM.out HG.out rfl rfl ?_
  intro X hX
  have D := Lib.hid (HB1.out.trans (hX.mono HB1.out.size))
  clear hX HG HT HM HB1
  simp only [Act.put, List.setIfInBounds_toArray, List.set_cons_zero, List.set_cons_succ]
  obtain ⟨b, hb⟩ : ∃ b, sameH (bf (sha (os ++ sha is))) gg = b := ⟨_, rfl⟩
  rw [hb]
  have HBB := Lib.hid hb
  clear hb
  go_wp2
  go_ret
  exact ⟨by rw [HBB.out]; rfl, D.out⟩
theorem mis_nil (v : Nat → Int) (w : World) :
    Calls Tryd.prog 21 #[.pointer none, .agg (nums .u8 32 v)] w fun e w' => e = .returned (.bool false) ∧ Below w.heap.size w w' := by
  have HB := Lib.hid ((Below.refl _ w).alloc (Nat.le_refl _) (.cells (nums .u8 32 v) 38))
  go_enter Tryd.func21, Tryd.ntmps21
  go_wp2_with fail
  refine region_mis_nil rfl rfl (by kernel_rfl) _ _ _ _ _ _ _ _ _ rfl rfl rfl rfl rfl rfl rfl rfl rfl rfl rfl rfl rfl rfl rfl rfl rfl rfl rfl rfl rfl rfl rfl rfl rfl rfl rfl rfl rfl rfl rfl rfl rfl rfl rfl rfl (by kernel_rfl) (by kernel_rfl) (by kernel_rfl) (by kernel_rfl) (by kernel_rfl) (by kernel_rfl) (by kernel_rfl) (by kernel_rfl) (by kernel_rfl) (by kernel_rfl) (by kernel_rfl) (by kernel_rfl) (by kernel_rfl) (by kernel_rfl) (by kernel_rfl) (by kernel_rfl) (by kernel_rfl) (by kernel_rfl) _ rfl _ rfl ?_
  simp only [Act.put, List.setIfInBounds_toArray, List.set_cons_zero, List.set_cons_succ]
  go_wp2
  go_ret
  exact ⟨rfl, HB.out.drew⟩
set_option maxRecDepth 100000 in
set_option maxHeartbeats 1000000 in
theorem mright_any (A B : Option Addr) (ks xs : List Int) (ca cb : Nat) (gg : Nat → Int) (hc : ks.length ≤ ca) (hr : ks.length ≤ 1000000) (hd : xs.length ≤ cb) (hx : xs.length ≤ 1000000) (w : World) (hT : Tabs w) (hk : Bys8 w.heap.size w (.slice A ks.length ca) ks) (hb : Bys8 w.heap.size w (.slice B xs.length cb) xs) :
    Calls Tryd.prog 22 #[.slice A ks.length ca, .slice B xs.length cb, .agg (nums .u8 32 gg)] w fun e w' => e = .returned (.bool (sameH (bf (tag ks xs)) gg)) ∧ Below w.heap.size w w' := by
  have B1 := (Below.refl _ w).alloc (Nat.le_refl _) (.cells (nums .u8 32 gg) 38)
  have HG := Lib.hid (At.new 38 w (nums .u8 32 gg))
  have HT := Lib.hid (hT.below hT.lt B1)
  have HK := Lib.hid ((hk.below B1).mono B1.size)
  have HB := Lib.hid ((hb.below B1).mono B1.size)
  have HB1 := Lib.hid B1
  clear hk hb hT B1
  go_enter Tryd.func22, Tryd.ntmps22
  go_wp2_with fail
  refine region_mright rfl rfl (by kernel_rfl) _ _ _ _ _ _ rfl rfl rfl rfl rfl rfl rfl rfl rfl rfl rfl rfl rfl rfl rfl rfl rfl rfl rfl rfl rfl rfl rfl rfl (by kernel_rfl) (by kernel_rfl) (by kernel_rfl) (by kernel_rfl) (by kernel_rfl) (by kernel_rfl) (by kernel_rfl) (by kernel_rfl) (by kernel_rfl) (by kernel_rfl) (by kernel_rfl) (by kernel_rfl) _ rfl A B ks xs ca cb gg w.heap.size _ HT.out hc hr hd hx HK.out HB.out HG.out rfl rfl rfl ?_
  intro X hX
  have D := Lib.hid (HB1.out.trans (hX.mono HB1.out.size))
  clear hX HG HT HK HB HB1
  simp only [Act.put, List.setIfInBounds_toArray, List.set_cons_zero, List.set_cons_succ]
  obtain ⟨b, hb⟩ : ∃ b, sameH (bf (tag ks xs)) gg = b := ⟨_, rfl⟩
  rw [hb]
  have HBB := Lib.hid hb
  clear hb
  go_wp2
  go_ret
  exact ⟨by rw [HBB.out]; rfl, D.out⟩
end Go.Proofs.YtkhhejkemkldgaaDoor
