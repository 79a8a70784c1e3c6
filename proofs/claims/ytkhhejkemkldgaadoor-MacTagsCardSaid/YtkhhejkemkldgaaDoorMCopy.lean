/- The contract of a Mac's Copy. -/
import Derived.Test.YtkhhejkemkldgaaDoorMSum
import Derived.Test.YtkhhejkemkldgaaDoorSReg
set_option linter.unusedVariables false
set_option linter.unusedSimpArgs false
namespace Go.Proofs.YtkhhejkemkldgaaDoor
open Go.RowKit Go.Shelf
theorem Below.draw1 {W X : World} (h : Below W.drew.heap.size W.drew X) : Below W.heap.size W X := ((Below.refl W.heap.size W).drew).trans h
/-- A stronger condition may be laid on what follows. -/
theorem wpAnyH_strong {P : Program} {md : Region.Mode} {ops : Array Oper} {Q : Exit → Act → World → Prop} {S S' : World → Prop} (hS : ∀ w, S' w → S w) : ∀ {fuel : Nat} {listed : Array Bool} {a : Act} {w : World}, wpAnyH P md ops Q S' fuel listed a w → wpAnyH P md ops Q S fuel listed a w
  | 0, _, _, _, h => h
  | fuel + 1, _, _, _, h => ⟨h.1, fun i hi => wpOp_mono (fun a' w' h' => ⟨hS _ h'.1, wpAnyH_strong hS h'.2⟩) (h.2 i hi)⟩
theorem exec_mfield0 {o : Oper} {a : Act} {x : Operand} {S p : Nat} {w : World} (ho : o.op = .fieldAddr 51 x 0) (hx : a.eval x = .pointer (some ⟨S, p, none⟩)) : (execOp a.eval o).run Tryd.prog w = .ok (.value (.pointer (some ⟨S, p, none⟩))) w := by
  unfold execOp
  simp only [ho, hx]
  go_simp
theorem exec_mfield1 {o : Oper} {a : Act} {x : Operand} {S : Nat} {w : World} (ho : o.op = .fieldAddr 51 x 1) (hx : a.eval x = .pointer (some ⟨S, 0, none⟩)) : (execOp a.eval o).run Tryd.prog w = .ok (.value (.pointer (some ⟨S, 73, none⟩))) w := by
  unfold execOp
  simp only [ho, hx]
  go_simp
theorem load_sha_var (W : World) (S : Nat) (xs : List Int) (h : ShaAt W S xs) : (loadVar 32 ⟨S, 0, none⟩).run Tryd.prog W = .ok (.agg (shaOf xs)) W :=
  run_loadVar_row W S _ 32 _ _ _ h.2 Tryd.underlying32 rfl (size_sha _ _ _)
theorem built_mac (A B : List Nat) (f g : Nat → Int) (n m : Int) : Tryd.prog.built 51 [(0, .agg (shaC A f n)), (1, .agg (shaC B g m))] = some (shaC A f n ++ shaC B g m) := by kernel_rfl
theorem exec_mbuild {o : Oper} {a : Act} {x y : Operand} {is os : List Int} {w : World} (ho : o.op = .build 51 #[(0, x), (1, y)]) (hx : a.eval x = .agg (shaOf is)) (hy : a.eval y = .agg (shaOf os)) : (execOp a.eval o).run Tryd.prog w = .ok (.value (.agg (shaOf is ++ shaOf os))) w := by
  unfold execOp
  have e : ((#[(0, x), (1, y)] : Array (Nat × Operand)).map fun (i, x) => (i, a.eval x)).toList = [(0, .agg (shaOf is)), (1, .agg (shaOf os))] := by simp [hx, hy]
  simp only [ho, Sem.run_bind, run_build w 51 _ _ (show Tryd.prog.built 51 _ = some (shaOf is ++ shaOf os) by rw [e]; exact built_mac _ _ _ _ _ _), Result.andThen_ok]
  rfl
theorem exec_mbox {o : Oper} {a : Act} {x : Operand} {cs : Array Value} {w : World} (ho : o.op = .box 51 x) (hx : a.eval x = .agg cs) : (execOp a.eval o).run Tryd.prog w = .ok (.value (.pointer (some ⟨w.heap.size, 0, none⟩))) (w.alloc (.cells cs 51)) := by
  unfold execOp
  simp only [ho, hx]
  go_simp
set_option maxHeartbeats 1000000 in
theorem region_mcopy {id : Nat} {Q : Exit → Act → World → Prop} {L0 : List Oper} {ops : Array Oper} (hops : L0.toArray = ops) (hlen : ops.size = 15) (hsel : Region.noSelect ops = true) (o0 o1 o2 o3 o4 o5 o6 o7 o8 o9 o10 o11 o12 o13 o14 : Oper)
    (p0 : ops[0]? = some o0) (e0 : o0.op = .move (.tmp 0)) (d0 : o0.dst = some 6) (g0 : o0.guard = none)
    (p1 : ops[1]? = some o1) (e1 : o1.op = .nilCheck (.tmp 6)) (d1 : o1.dst = some 7) (g1 : o1.guard = none)
    (p2 : ops[2]? = some o2) (e2 : o2.op = .fieldAddr 51 (.tmp 7) 0) (d2 : o2.dst = some 8) (g2 : o2.guard = none)
    (p3 : ops[3]? = some o3) (e3 : o3.op = .call { callee := .value (.func 12), args := #[.tmp 8], argTypes := #[32] }) (d3 : o3.dst = some 9) (g3 : o3.guard = none)
    (p4 : ops[4]? = some o4) (e4 : o4.op = .nilCheck (.tmp 9)) (d4 : o4.dst = some 10) (g4 : o4.guard = none)
    (p5 : ops[5]? = some o5) (e5 : o5.op = .load 32 (.tmp 10)) (d5 : o5.dst = some 11) (g5 : o5.guard = none)
    (p6 : ops[6]? = some o6) (e6 : o6.op = .move (.tmp 0)) (d6 : o6.dst = some 12) (g6 : o6.guard = none)
    (p7 : ops[7]? = some o7) (e7 : o7.op = .nilCheck (.tmp 12)) (d7 : o7.dst = some 13) (g7 : o7.guard = none)
    (p8 : ops[8]? = some o8) (e8 : o8.op = .fieldAddr 51 (.tmp 13) 1) (d8 : o8.dst = some 14) (g8 : o8.guard = none)
    (p9 : ops[9]? = some o9) (e9 : o9.op = .call { callee := .value (.func 12), args := #[.tmp 14], argTypes := #[32] }) (d9 : o9.dst = some 15) (g9 : o9.guard = none)
    (p10 : ops[10]? = some o10) (e10 : o10.op = .nilCheck (.tmp 15)) (d10 : o10.dst = some 16) (g10 : o10.guard = none)
    (p11 : ops[11]? = some o11) (e11 : o11.op = .load 32 (.tmp 16)) (d11 : o11.dst = some 17) (g11 : o11.guard = none)
    (p12 : ops[12]? = some o12) (e12 : o12.op = .build 51 #[(0, .tmp 11), (1, .tmp 17)]) (d12 : o12.dst = some 18) (g12 : o12.guard = none)
    (p13 : ops[13]? = some o13) (e13 : o13.op = .box 51 (.tmp 18)) (d13 : o13.dst = some 19) (g13 : o13.guard = none)
    (p14 : ops[14]? = some o14) (e14 : o14.op = .assign (.tmp 19)) (d14 : o14.dst = some 2) (g14 : o14.guard = none)
    (f0 : Region.free .any ops (LR 15 []) 0 = true) (c0 : (Region.ready .any ops (LR 15 [])).contains 0 = true)
    (f1 : Region.free .any ops (LR 15 [0]) 1 = true) (c1 : (Region.ready .any ops (LR 15 [0])).contains 1 = true)
    (f2 : Region.free .any ops (LR 15 [0, 1]) 2 = true) (c2 : (Region.ready .any ops (LR 15 [0, 1])).contains 2 = true)
    (f6 : Region.free .any ops (LR 15 [0, 1, 2]) 6 = true) (c6 : (Region.ready .any ops (LR 15 [0, 1, 2])).contains 6 = true)
    (f7 : Region.free .any ops (LR 15 [0, 1, 2, 6]) 7 = true) (c7 : (Region.ready .any ops (LR 15 [0, 1, 2, 6])).contains 7 = true)
    (f8 : Region.free .any ops (LR 15 [0, 1, 2, 6, 7]) 8 = true) (c8 : (Region.ready .any ops (LR 15 [0, 1, 2, 6, 7])).contains 8 = true)
    (r3 : Region.ready .any ops (LR 15 [0, 1, 2, 6, 7, 8]) = [3])
    (f4 : Region.free .any ops (LR 15 [0, 1, 2, 3, 6, 7, 8]) 4 = true) (c4 : (Region.ready .any ops (LR 15 [0, 1, 2, 3, 6, 7, 8])).contains 4 = true)
    (f5 : Region.free .any ops (LR 15 [0, 1, 2, 3, 4, 6, 7, 8]) 5 = true) (c5 : (Region.ready .any ops (LR 15 [0, 1, 2, 3, 4, 6, 7, 8])).contains 5 = true)
    (r9 : Region.ready .any ops (LR 15 [0, 1, 2, 3, 4, 5, 6, 7, 8]) = [9])
    (f10 : Region.free .any ops (LR 15 [0, 1, 2, 3, 4, 5, 6, 7, 8, 9]) 10 = true) (c10 : (Region.ready .any ops (LR 15 [0, 1, 2, 3, 4, 5, 6, 7, 8, 9])).contains 10 = true)
    (r11 : Region.ready .any ops (LR 15 [0, 1, 2, 3, 4, 5, 6, 7, 8, 9, 10]) = [11])
    (f12 : Region.free .any ops (LR 15 [0, 1, 2, 3, 4, 5, 6, 7, 8, 9, 10, 11]) 12 = true) (c12 : (Region.ready .any ops (LR 15 [0, 1, 2, 3, 4, 5, 6, 7, 8, 9, 10, 11])).contains 12 = true)
    (r13 : Region.ready .any ops (LR 15 [0, 1, 2, 3, 4, 5, 6, 7, 8, 9, 10, 11, 12]) = [13])
    (f14 : Region.free .any ops (LR 15 [0, 1, 2, 3, 4, 5, 6, 7, 8, 9, 10, 11, 12, 13]) 14 = true) (c14 : (Region.ready .any ops (LR 15 [0, 1, 2, 3, 4, 5, 6, 7, 8, 9, 10, 11, 12, 13])).contains 14 = true)
    (rN : Region.ready .any ops (LR 15 [0, 1, 2, 3, 4, 5, 6, 7, 8, 9, 10, 11, 12, 13, 14]) = [])
    (a : Act) (ha : a.tmps.size = 20) (B : Nat) (is os : List Int) (W : World) (hM : MacAt W B is os) (ha0 : a.eval (.tmp 0) = .pointer (some ⟨B, 0, none⟩))
    (fin : ∀ (X1 X2 : World), Below W.heap.size W X2 → MacAt (X2.alloc (.cells (shaOf is ++ shaOf os) 51)) X2.heap.size is os → Q .normal ((((((((((((((((a.put (some 6) (.pointer (some ⟨B, 0, none⟩))).put (some 7) (.pointer (some ⟨B, 0, none⟩))).put (some 8) (.pointer (some ⟨B, 0, none⟩))).put (some 12) (.pointer (some ⟨B, 0, none⟩))).put (some 13) (.pointer (some ⟨B, 0, none⟩))).put (some 14) (.pointer (some ⟨B, 73, none⟩))).put (some 9) (.pointer (some ⟨W.heap.size, 0, none⟩))).put (some 10) (.pointer (some ⟨W.heap.size, 0, none⟩))).put (some 11) (.agg (shaOf is))).put (some 15) (.pointer (some ⟨X1.heap.size, 0, none⟩))).put (some 16) (.pointer (some ⟨X1.heap.size, 0, none⟩))).put (some 17) (.agg (shaOf os))).put (some 18) (.agg (shaOf is ++ shaOf os))).put (some 19) (.pointer (some ⟨X2.heap.size, 0, none⟩))).put (some 2) (.pointer (some ⟨X2.heap.size, 0, none⟩)))) (X2.alloc (.cells (shaOf is ++ shaOf os) 51))) :
    (Code.region id L0.toArray true).wp Tryd.prog Q a W := by
  subst hops
  refine wp_mono (Q := plainQ Q) (wp_region_held (S := fun _ => True) (by kernel_rfl) ?_) (fun e a w h => by obtain ⟨rfl, h⟩ := h; exact h)
  change wpAnyH _ _ _ _ _ L0.toArray.size _ _ W.drew
  rw [hlen]
  rw [show Array.replicate 15 false = LR 15 [] from by decide]
  refine heldS_take (i := 0) (v := .pointer (some ⟨B, 0, none⟩)) p0 hsel f0 c0 (wanted_none g0) (fun X hX => exec_move e0 (by simp [eval_putT, size_putT, ha, ha0])) trivial ?_
  rw [show (LR 15 []).setIfInBounds 0 true = (LR 15 [0]) from by decide]
  rw [d0]
  refine heldS_take (i := 1) (v := .pointer (some ⟨B, 0, none⟩)) p1 hsel f1 c1 (wanted_none g1) (fun X hX => exec_nil e1 (p := ⟨B, 0, none⟩) (by simp [eval_putT, size_putT, ha, ha0])) trivial ?_
  rw [show (LR 15 [0]).setIfInBounds 1 true = (LR 15 [0, 1]) from by decide]
  rw [d1]
  refine heldS_take (i := 2) (v := .pointer (some ⟨B, 0, none⟩)) p2 hsel f2 c2 (wanted_none g2) (fun X hX => exec_mfield0 e2 (by simp [eval_putT, size_putT, ha, ha0])) trivial ?_
  rw [show (LR 15 [0, 1]).setIfInBounds 2 true = (LR 15 [0, 1, 2]) from by decide]
  rw [d2]
  refine heldS_take (i := 6) (v := .pointer (some ⟨B, 0, none⟩)) p6 hsel f6 c6 (wanted_none g6) (fun X hX => exec_move e6 (by simp [eval_putT, size_putT, ha, ha0])) trivial ?_
  rw [show (LR 15 [0, 1, 2]).setIfInBounds 6 true = (LR 15 [0, 1, 2, 6]) from by decide]
  rw [d6]
  refine heldS_take (i := 7) (v := .pointer (some ⟨B, 0, none⟩)) p7 hsel f7 c7 (wanted_none g7) (fun X hX => exec_nil e7 (p := ⟨B, 0, none⟩) (by simp [eval_putT, size_putT, ha, ha0])) trivial ?_
  rw [show (LR 15 [0, 1, 2, 6]).setIfInBounds 7 true = (LR 15 [0, 1, 2, 6, 7]) from by decide]
  rw [d7]
  refine heldS_take (i := 8) (v := .pointer (some ⟨B, 73, none⟩)) p8 hsel f8 c8 (wanted_none g8) (fun X hX => exec_mfield1 e8 (by simp [eval_putT, size_putT, ha, ha0])) trivial ?_
  rw [show (LR 15 [0, 1, 2, 6, 7]).setIfInBounds 8 true = (LR 15 [0, 1, 2, 6, 7, 8]) from by decide]
  rw [d8]
  refine heldS_one p3 r3 (wanted_none g3) ?_
  refine wp_call e3 (by simp [eval_putT, size_putT, ha, ha0]) (enters_of Tryd.func12 (by kernel_rfl) rfl) (inner_copy B is os W.drew hM) ?_
  rintro X1 ⟨h1, q1, z1⟩
  refine ⟨trivial, ?_⟩
  rw [show (LR 15 [0, 1, 2, 6, 7, 8]).setIfInBounds 3 true = (LR 15 [0, 1, 2, 3, 6, 7, 8]) from by decide]
  rw [d3]
  refine wpAnyH_strong (S' := fun X => ShaAt X W.heap.size is) (fun _ _ => trivial) ?_
  refine heldS_take (i := 4) (v := .pointer (some ⟨W.heap.size, 0, none⟩)) p4 hsel f4 c4 (wanted_none g4) (fun X hX => exec_nil e4 (p := ⟨W.heap.size, 0, none⟩) (by simp [eval_putT, size_putT, ha, ha0])) h1 ?_
  rw [show (LR 15 [0, 1, 2, 3, 6, 7, 8]).setIfInBounds 4 true = (LR 15 [0, 1, 2, 3, 4, 6, 7, 8]) from by decide]
  rw [d4]
  refine heldS_take (i := 5) (v := .agg (shaOf is)) p5 hsel f5 c5 (wanted_none g5) (fun X hX => exec_load e5 (by simp [eval_putT, size_putT, ha, ha0]) (load_sha_var X _ _ hX)) h1 ?_
  rw [show (LR 15 [0, 1, 2, 3, 4, 6, 7, 8]).setIfInBounds 5 true = (LR 15 [0, 1, 2, 3, 4, 5, 6, 7, 8]) from by decide]
  rw [d5]
  refine heldS_one p9 r9 (wanted_none g9) ?_
  refine wp_call e9 (by simp [eval_putT, size_putT, ha, ha0]) (enters_of Tryd.func12 (by kernel_rfl) rfl) (outer_copy B is os X1 (hM.below (Below.draw1 q1) hM.lt)) ?_
  rintro X2 ⟨h2, q2, z2⟩
  have hx2 : ShaAt X2 W.heap.size is := h1.below q2 h1.lt
  refine ⟨hx2, ?_⟩
  rw [show (LR 15 [0, 1, 2, 3, 4, 5, 6, 7, 8]).setIfInBounds 9 true = (LR 15 [0, 1, 2, 3, 4, 5, 6, 7, 8, 9]) from by decide]
  rw [d9]
  refine heldS_take (i := 10) (v := .pointer (some ⟨X1.heap.size, 0, none⟩)) p10 hsel f10 c10 (wanted_none g10) (fun X hX => exec_nil e10 (p := ⟨X1.heap.size, 0, none⟩) (by simp [eval_putT, size_putT, ha, ha0])) hx2 ?_
  rw [show (LR 15 [0, 1, 2, 3, 4, 5, 6, 7, 8, 9]).setIfInBounds 10 true = (LR 15 [0, 1, 2, 3, 4, 5, 6, 7, 8, 9, 10]) from by decide]
  rw [d10]
  refine heldS_one p11 r11 (wanted_none g11) ?_
  refine wp_of_runT (w' := X2) (v := .agg (shaOf os)) (exec_load e11 (by simp [eval_putT, size_putT, ha, ha0]) (load_sha_var X2 _ _ h2)) ⟨hx2, ?_⟩
  rw [show (LR 15 [0, 1, 2, 3, 4, 5, 6, 7, 8, 9, 10]).setIfInBounds 11 true = (LR 15 [0, 1, 2, 3, 4, 5, 6, 7, 8, 9, 10, 11]) from by decide]
  rw [d11]
  refine heldS_take (i := 12) (v := .agg (shaOf is ++ shaOf os)) p12 hsel f12 c12 (wanted_none g12) (fun X hX => exec_mbuild e12 (by simp [eval_putT, size_putT, ha, ha0]) (by simp [eval_putT, size_putT, ha, ha0])) hx2 ?_
  rw [show (LR 15 [0, 1, 2, 3, 4, 5, 6, 7, 8, 9, 10, 11]).setIfInBounds 12 true = (LR 15 [0, 1, 2, 3, 4, 5, 6, 7, 8, 9, 10, 11, 12]) from by decide]
  rw [d12]
  refine heldS_one p13 r13 (wanted_none g13) ?_
  refine wp_of_runT (w' := X2.alloc (.cells (shaOf is ++ shaOf os) 51)) (v := .pointer (some ⟨X2.heap.size, 0, none⟩)) (exec_mbox e13 (by simp [eval_putT, size_putT, ha, ha0])) ⟨h1.below (q2.trans ((Below.refl _ X2).alloc q2.size _)) h1.lt, ?_⟩
  rw [show (LR 15 [0, 1, 2, 3, 4, 5, 6, 7, 8, 9, 10, 11, 12]).setIfInBounds 13 true = (LR 15 [0, 1, 2, 3, 4, 5, 6, 7, 8, 9, 10, 11, 12, 13]) from by decide]
  rw [d13]
  refine heldS_take (i := 14) (v := .pointer (some ⟨X2.heap.size, 0, none⟩)) p14 hsel f14 c14 (wanted_none g14) (fun X hX => exec_assign e14 (by simp [eval_putT, size_putT, ha, ha0])) (h1.below (q2.trans ((Below.refl _ X2).alloc q2.size _)) h1.lt) ?_
  rw [show (LR 15 [0, 1, 2, 3, 4, 5, 6, 7, 8, 9, 10, 11, 12, 13]).setIfInBounds 14 true = (LR 15 [0, 1, 2, 3, 4, 5, 6, 7, 8, 9, 10, 11, 12, 13, 14]) from by decide]
  rw [d14]
  exact wpAnyH_done rN ⟨rfl, fin X1 X2 ((Below.draw1 q1).trans (q2.mono q1.size)) ⟨hM.1, hM.2.1, At.new _ X2 _⟩⟩ _
set_option maxRecDepth 100000 in
set_option maxHeartbeats 1000000 in
theorem mcopy_any (B : Nat) (is os : List Int) (ho : 0 < os.length) (w : World) (hM : MacAt w B is os) :
    Calls Tryd.prog 25 #[.pointer (some ⟨B, 0, none⟩)] w fun e w' => ∃ C, e = .returned (.pointer (some ⟨C, 0, none⟩)) ∧ w.heap.size ≤ C ∧ MacAt w' C is os ∧ Below w.heap.size w w' := by
  have h1 := Lib.hid (made_any B is os w hM)
  have HM := Lib.hid hM
  have HL := Lib.hid (decide_eq_true ho)
  clear hM ho
  go_enter Tryd.func25, Tryd.ntmps25
  go_wp2_with fail
  refine h1.out.mono ?_
  rintro e w' ⟨rfl, rfl⟩
  rw [HL.out]
  go_wp2_with fail
  refine region_mcopy rfl rfl (by kernel_rfl) _ _ _ _ _ _ _ _ _ _ _ _ _ _ _ rfl rfl rfl rfl rfl rfl rfl rfl rfl rfl rfl rfl rfl rfl rfl rfl rfl rfl rfl rfl rfl rfl rfl rfl rfl rfl rfl rfl rfl rfl rfl rfl rfl rfl rfl rfl rfl rfl rfl rfl rfl rfl rfl rfl rfl rfl rfl rfl rfl rfl rfl rfl rfl rfl rfl rfl rfl rfl rfl rfl (by kernel_rfl) (by kernel_rfl) (by kernel_rfl) (by kernel_rfl) (by kernel_rfl) (by kernel_rfl) (by kernel_rfl) (by kernel_rfl) (by kernel_rfl) (by kernel_rfl) (by kernel_rfl) (by kernel_rfl) (by kernel_rfl) (by kernel_rfl) (by kernel_rfl) (by kernel_rfl) (by kernel_rfl) (by kernel_rfl) (by kernel_rfl) (by kernel_rfl) (by kernel_rfl) (by kernel_rfl) (by kernel_rfl) (by kernel_rfl) (by kernel_rfl) (by kernel_rfl) (by kernel_rfl) _ rfl B is os w HM.out rfl ?_
  intro X1 X2 hB hC
  have HB := Lib.hid hB
  have HC := Lib.hid hC
  clear hB hC
  simp only [Act.put, List.setIfInBounds_toArray, List.set_cons_zero, List.set_cons_succ]
  go_wp2
  go_ret
  exact ⟨_, rfl, HB.out.size, HC.out, HB.out.alloc HB.out.size _⟩
theorem mcopy_nil (w : World) :
    Calls Tryd.prog 25 #[.pointer none] w fun e w' => e = .returned (.pointer none) ∧ w = w' := by
  go_enter Tryd.func25, Tryd.ntmps25
  go_wp2_with fail
  refine (made_nil w).mono ?_
  rintro e w' ⟨rfl, rfl⟩
  go_wp2
  go_ret
  exact ⟨rfl, rfl⟩
end Go.Proofs.YtkhhejkemkldgaaDoor
