/- The walk of the statement ShaTexts. -/
import Derived.Test.YthjjlkoddmljbaaTReg
set_option linter.unusedVariables false
set_option linter.unusedSimpArgs false
namespace Go.Proofs.Ythjjlkoddmljbaa
open Go.RowKit Go.Shelf
set_option maxHeartbeats 1000000 in
theorem region_texts {id : Nat} {Q : Exit → Act → World → Prop} {L0 : List Oper} {ops : Array Oper} (hops : L0.toArray = ops) (hlen : ops.size = 16) (hsel : Region.noSelect ops = true) (o0 o1 o2 o3 o4 o5 o6 o7 o8 o9 o10 o11 o12 o13 o14 o15 : Oper)
    (p0 : ops[0]? = some o0) (e0 : o0.op = .load 22 (.tmp 2)) (d0 : o0.dst = some 22) (g0 : o0.guard = none)
    (p1 : ops[1]? = some o1) (e1 : o1.op = .call { callee := .value (.func 6), args := #[.tmp 22], argTypes := #[23] }) (d1 : o1.dst = some 23) (g1 : o1.guard = none)
    (p2 : ops[2]? = some o2) (e2 : o2.op = .load 22 (.tmp 2)) (d2 : o2.dst = some 24) (g2 : o2.guard = none)
    (p3 : ops[3]? = some o3) (e3 : o3.op = .call { callee := .value (.func 7), args := #[.tmp 24], argTypes := #[23] }) (d3 : o3.dst = some 25) (g3 : o3.guard = none)
    (p4 : ops[4]? = some o4) (e4 : o4.op = .binOp .eql 9 (.tmp 23) (.tmp 25) 9) (d4 : o4.dst = some 26) (g4 : o4.guard = none)
    (p5 : ops[5]? = some o5) (e5 : o5.op = .move (.tmp 26)) (d5 : o5.dst = some 27) (g5 : o5.guard = none)
    (p6 : ops[6]? = some o6) (e6 : o6.op = .load 23 (.tmp 5)) (d6 : o6.dst = some 28) (g6 : o6.guard = some (5, true))
    (p7 : ops[7]? = some o7) (e7 : o7.op = .load 23 (.tmp 7)) (d7 : o7.dst = some 29) (g7 : o7.guard = some (5, true))
    (p8 : ops[8]? = some o8) (e8 : o8.op = .binOp .eql 23 (.tmp 28) (.tmp 29) 23) (d8 : o8.dst = some 30) (g8 : o8.guard = some (5, true))
    (p9 : ops[9]? = some o9) (e9 : o9.op = .pick (.tmp 27) (.tmp 30) (.const (.bool false))) (d9 : o9.dst = some 31) (g9 : o9.guard = none)
    (p10 : ops[10]? = some o10) (e10 : o10.op = .move (.tmp 31)) (d10 : o10.dst = some 32) (g10 : o10.guard = none)
    (p11 : ops[11]? = some o11) (e11 : o11.op = .move (.tmp 6)) (d11 : o11.dst = some 33) (g11 : o11.guard = some (10, true))
    (p12 : ops[12]? = some o12) (e12 : o12.op = .move (.tmp 8)) (d12 : o12.dst = some 34) (g12 : o12.guard = some (10, true))
    (p13 : ops[13]? = some o13) (e13 : o13.op = .binOp .eql 3 (.tmp 33) (.tmp 34) 3) (d13 : o13.dst = some 35) (g13 : o13.guard = some (10, true))
    (p14 : ops[14]? = some o14) (e14 : o14.op = .pick (.tmp 32) (.tmp 35) (.const (.bool false))) (d14 : o14.dst = some 36) (g14 : o14.guard = none)
    (p15 : ops[15]? = some o15) (e15 : o15.op = .assign (.tmp 36)) (d15 : o15.dst = some 4) (g15 : o15.guard = none)
    (f0 : Region.free .any ops (LR 16 []) 0 = true) (c0 : (Region.ready .any ops (LR 16 [])).contains 0 = true)
    (f2 : Region.free .any ops (LR 16 [0]) 2 = true) (c2 : (Region.ready .any ops (LR 16 [0])).contains 2 = true)
    (r1 : Region.ready .any ops (LR 16 [0, 2]) = [1])
    (r3 : Region.ready .any ops (LR 16 [0, 1, 2]) = [3])
    (f4 : Region.free .any ops (LR 16 [0, 1, 2, 3]) 4 = true) (c4 : (Region.ready .any ops (LR 16 [0, 1, 2, 3])).contains 4 = true)
    (f5 : Region.free .any ops (LR 16 [0, 1, 2, 3, 4]) 5 = true) (c5 : (Region.ready .any ops (LR 16 [0, 1, 2, 3, 4])).contains 5 = true)
    (f6 : Region.free .any ops (LR 16 [0, 1, 2, 3, 4, 5]) 6 = true) (c6 : (Region.ready .any ops (LR 16 [0, 1, 2, 3, 4, 5])).contains 6 = true)
    (f7 : Region.free .any ops (LR 16 [0, 1, 2, 3, 4, 5, 6]) 7 = true) (c7 : (Region.ready .any ops (LR 16 [0, 1, 2, 3, 4, 5, 6])).contains 7 = true)
    (f8 : Region.free .any ops (LR 16 [0, 1, 2, 3, 4, 5, 6, 7]) 8 = true) (c8 : (Region.ready .any ops (LR 16 [0, 1, 2, 3, 4, 5, 6, 7])).contains 8 = true)
    (f9 : Region.free .any ops (LR 16 [0, 1, 2, 3, 4, 5, 6, 7, 8]) 9 = true) (c9 : (Region.ready .any ops (LR 16 [0, 1, 2, 3, 4, 5, 6, 7, 8])).contains 9 = true)
    (f10 : Region.free .any ops (LR 16 [0, 1, 2, 3, 4, 5, 6, 7, 8, 9]) 10 = true) (c10 : (Region.ready .any ops (LR 16 [0, 1, 2, 3, 4, 5, 6, 7, 8, 9])).contains 10 = true)
    (f11 : Region.free .any ops (LR 16 [0, 1, 2, 3, 4, 5, 6, 7, 8, 9, 10]) 11 = true) (c11 : (Region.ready .any ops (LR 16 [0, 1, 2, 3, 4, 5, 6, 7, 8, 9, 10])).contains 11 = true)
    (f12 : Region.free .any ops (LR 16 [0, 1, 2, 3, 4, 5, 6, 7, 8, 9, 10, 11]) 12 = true) (c12 : (Region.ready .any ops (LR 16 [0, 1, 2, 3, 4, 5, 6, 7, 8, 9, 10, 11])).contains 12 = true)
    (f13 : Region.free .any ops (LR 16 [0, 1, 2, 3, 4, 5, 6, 7, 8, 9, 10, 11, 12]) 13 = true) (c13 : (Region.ready .any ops (LR 16 [0, 1, 2, 3, 4, 5, 6, 7, 8, 9, 10, 11, 12])).contains 13 = true)
    (f14 : Region.free .any ops (LR 16 [0, 1, 2, 3, 4, 5, 6, 7, 8, 9, 10, 11, 12, 13]) 14 = true) (c14 : (Region.ready .any ops (LR 16 [0, 1, 2, 3, 4, 5, 6, 7, 8, 9, 10, 11, 12, 13])).contains 14 = true)
    (f15 : Region.free .any ops (LR 16 [0, 1, 2, 3, 4, 5, 6, 7, 8, 9, 10, 11, 12, 13, 14]) 15 = true) (c15 : (Region.ready .any ops (LR 16 [0, 1, 2, 3, 4, 5, 6, 7, 8, 9, 10, 11, 12, 13, 14])).contains 15 = true)
    (rN : Region.ready .any ops (LR 16 [0, 1, 2, 3, 4, 5, 6, 7, 8, 9, 10, 11, 12, 13, 14, 15]) = [])
    (a : Act) (ha : a.tmps.size = 37) (ga b5 b7 : Nat) (h : List Int) (hb : Bytes h) (f : Nat → Int) (n : Int) (W : World) (hS0 : At 22 W ga (nums .u8 32 (bf h)) ∧ At 23 W b5 (nums .u8 32 f) ∧ At 23 W b7 (nums .u8 32 f)) (ha2 : a.eval (.tmp 2) = .pointer (some ⟨ga, 0, none⟩)) (ha5 : a.eval (.tmp 5) = .pointer (some ⟨b5, 0, none⟩)) (ha7 : a.eval (.tmp 7) = .pointer (some ⟨b7, 0, none⟩)) (ha6 : a.eval (.tmp 6) = .int .i64 n) (ha8 : a.eval (.tmp 8) = .int .i64 n)
    (fin : ∀ X, Below W.heap.size W X → Q .normal (((((((((((((((((a.put (some 22) (.agg (nums .u8 32 (bf h)))).put (some 24) (.agg (nums .u8 32 (bf h)))).put (some 23) (.string (strOfNums (texted h)))).put (some 25) (.string (strOfNums (texted h)))).put (some 26) (.bool true)).put (some 27) (.bool true)).put (some 28) (.agg (nums .u8 32 f))).put (some 29) (.agg (nums .u8 32 f))).put (some 30) (.bool true)).put (some 31) (.bool true)).put (some 32) (.bool true)).put (some 33) (.int .i64 n)).put (some 34) (.int .i64 n)).put (some 35) (.bool true)).put (some 36) (.bool true)).put (some 4) (.bool true))) X) :
    (Code.region id L0.toArray true).wp Try.prog Q a W := by
  subst hops
  refine wp_mono (Q := plainQ Q) (wp_region_held (S := fun X => At 22 X ga (nums .u8 32 (bf h)) ∧ At 23 X b5 (nums .u8 32 f) ∧ At 23 X b7 (nums .u8 32 f)) (by kernel_rfl) ?_) (fun e a w h => by obtain ⟨rfl, h⟩ := h; exact h)
  change wpAnyH _ _ _ _ _ L0.toArray.size _ _ W.drew
  rw [hlen]
  rw [show Array.replicate 16 false = LR 16 [] from by decide]
  have st : ∀ X Y : World, (At 22 X ga (nums .u8 32 (bf h)) ∧ At 23 X b5 (nums .u8 32 f) ∧ At 23 X b7 (nums .u8 32 f)) → Below X.heap.size X Y → (At 22 Y ga (nums .u8 32 (bf h)) ∧ At 23 Y b5 (nums .u8 32 f) ∧ At 23 Y b7 (nums .u8 32 f)) := fun X Y ⟨x, y, z⟩ q => ⟨At.below x x.lt q, At.below y y.lt q, At.below z z.lt q⟩
  refine heldS_take (i := 0) (v := .agg (nums .u8 32 (bf h))) p0 hsel f0 c0 (wanted_none g0) (fun X hX => exec_loadarr e0 (by simp [eval_putT, size_putT, ha, ha2, ha5, ha6, ha7, ha8]) hX.1) hS0 ?_
  rw [show (LR 16 []).setIfInBounds 0 true = (LR 16 [0]) from by decide]
  rw [d0]
  refine heldS_take (i := 2) (v := .agg (nums .u8 32 (bf h))) p2 hsel f2 c2 (wanted_none g2) (fun X hX => exec_loadarr e2 (by simp [eval_putT, size_putT, ha, ha2, ha5, ha6, ha7, ha8]) hX.1) hS0 ?_
  rw [show (LR 16 [0]).setIfInBounds 2 true = (LR 16 [0, 2]) from by decide]
  rw [d2]
  refine heldS_one p1 r1 (wanted_none g1) ?_
  refine wp_call e1 (by simp [eval_putT, size_putT, ha, ha2, ha5, ha6, ha7, ha8]) (enters_of Try.func6 (by kernel_rfl) rfl) (text_any h hb W.drew) ?_
  intro X1 q1
  have hS1 := st W.drew X1 hS0 q1
  refine ⟨hS1, ?_⟩
  rw [show (LR 16 [0, 2]).setIfInBounds 1 true = (LR 16 [0, 1, 2]) from by decide]
  rw [d1]
  refine heldS_one p3 r3 (wanted_none g3) ?_
  refine wp_call e3 (by simp [eval_putT, size_putT, ha, ha2, ha5, ha6, ha7, ha8]) (enters_of Try.func7 (by kernel_rfl) rfl) (rtext_any h hb X1) ?_
  intro X2 q2
  have hS2 := st X1 X2 hS1 q2
  refine ⟨hS2, ?_⟩
  rw [show (LR 16 [0, 1, 2]).setIfInBounds 3 true = (LR 16 [0, 1, 2, 3]) from by decide]
  rw [d3]
  refine heldS_take (i := 4) (v := .bool true) p4 hsel f4 c4 (wanted_none g4) (fun X hX => exec_eqstr (s := strOfNums (texted h)) e4 (by simp [eval_putT, size_putT, ha, ha2, ha5, ha6, ha7, ha8]) (by simp [eval_putT, size_putT, ha, ha2, ha5, ha6, ha7, ha8])) hS2 ?_
  rw [show (LR 16 [0, 1, 2, 3]).setIfInBounds 4 true = (LR 16 [0, 1, 2, 3, 4]) from by decide]
  rw [d4]
  refine heldS_take (i := 5) (v := .bool true) p5 hsel f5 c5 (wanted_none g5) (fun X hX => exec_move e5 (by simp [eval_putT, size_putT, ha, ha2, ha5, ha6, ha7, ha8])) hS2 ?_
  rw [show (LR 16 [0, 1, 2, 3, 4]).setIfInBounds 5 true = (LR 16 [0, 1, 2, 3, 4, 5]) from by decide]
  rw [d5]
  refine heldS_take (i := 6) (v := .agg (nums .u8 32 f)) p6 hsel f6 c6 (wanted_some g6 p5 d5 (by simp [size_putT, ha]) (by simp [eval_putT, size_putT, ha, ha2, ha5, ha6, ha7, ha8])) (fun X hX => exec_loadhash e6 (by simp [eval_putT, size_putT, ha, ha2, ha5, ha6, ha7, ha8]) hX.2.1) hS2 ?_
  rw [show (LR 16 [0, 1, 2, 3, 4, 5]).setIfInBounds 6 true = (LR 16 [0, 1, 2, 3, 4, 5, 6]) from by decide]
  rw [d6]
  refine heldS_take (i := 7) (v := .agg (nums .u8 32 f)) p7 hsel f7 c7 (wanted_some g7 p5 d5 (by simp [size_putT, ha]) (by simp [eval_putT, size_putT, ha, ha2, ha5, ha6, ha7, ha8])) (fun X hX => exec_loadhash e7 (by simp [eval_putT, size_putT, ha, ha2, ha5, ha6, ha7, ha8]) hX.2.2) hS2 ?_
  rw [show (LR 16 [0, 1, 2, 3, 4, 5, 6]).setIfInBounds 7 true = (LR 16 [0, 1, 2, 3, 4, 5, 6, 7]) from by decide]
  rw [d7]
  refine heldS_take (i := 8) (v := .bool true) p8 hsel f8 c8 (wanted_some g8 p5 d5 (by simp [size_putT, ha]) (by simp [eval_putT, size_putT, ha, ha2, ha5, ha6, ha7, ha8])) (fun X hX => exec_eqhash (f := f) e8 (by simp [eval_putT, size_putT, ha, ha2, ha5, ha6, ha7, ha8]) (by simp [eval_putT, size_putT, ha, ha2, ha5, ha6, ha7, ha8])) hS2 ?_
  rw [show (LR 16 [0, 1, 2, 3, 4, 5, 6, 7]).setIfInBounds 8 true = (LR 16 [0, 1, 2, 3, 4, 5, 6, 7, 8]) from by decide]
  rw [d8]
  refine heldS_take (i := 9) (v := .bool true) p9 hsel f9 c9 (wanted_none g9) (fun X hX => exec_pick (b := true) (v := .bool true) e9 (by simp [eval_putT, size_putT, ha, ha2, ha5, ha6, ha7, ha8]) (by simp [eval_putT, size_putT, ha, ha2, ha5, ha6, ha7, ha8]) rfl) hS2 ?_
  rw [show (LR 16 [0, 1, 2, 3, 4, 5, 6, 7, 8]).setIfInBounds 9 true = (LR 16 [0, 1, 2, 3, 4, 5, 6, 7, 8, 9]) from by decide]
  rw [d9]
  refine heldS_take (i := 10) (v := .bool true) p10 hsel f10 c10 (wanted_none g10) (fun X hX => exec_move e10 (by simp [eval_putT, size_putT, ha, ha2, ha5, ha6, ha7, ha8])) hS2 ?_
  rw [show (LR 16 [0, 1, 2, 3, 4, 5, 6, 7, 8, 9]).setIfInBounds 10 true = (LR 16 [0, 1, 2, 3, 4, 5, 6, 7, 8, 9, 10]) from by decide]
  rw [d10]
  refine heldS_take (i := 11) (v := .int .i64 n) p11 hsel f11 c11 (wanted_some g11 p10 d10 (by simp [size_putT, ha]) (by simp [eval_putT, size_putT, ha, ha2, ha5, ha6, ha7, ha8])) (fun X hX => exec_move e11 (by simp [eval_putT, size_putT, ha, ha2, ha5, ha6, ha7, ha8])) hS2 ?_
  rw [show (LR 16 [0, 1, 2, 3, 4, 5, 6, 7, 8, 9, 10]).setIfInBounds 11 true = (LR 16 [0, 1, 2, 3, 4, 5, 6, 7, 8, 9, 10, 11]) from by decide]
  rw [d11]
  refine heldS_take (i := 12) (v := .int .i64 n) p12 hsel f12 c12 (wanted_some g12 p10 d10 (by simp [size_putT, ha]) (by simp [eval_putT, size_putT, ha, ha2, ha5, ha6, ha7, ha8])) (fun X hX => exec_move e12 (by simp [eval_putT, size_putT, ha, ha2, ha5, ha6, ha7, ha8])) hS2 ?_
  rw [show (LR 16 [0, 1, 2, 3, 4, 5, 6, 7, 8, 9, 10, 11]).setIfInBounds 12 true = (LR 16 [0, 1, 2, 3, 4, 5, 6, 7, 8, 9, 10, 11, 12]) from by decide]
  rw [d12]
  refine heldS_take (i := 13) (v := .bool true) p13 hsel f13 c13 (wanted_some g13 p10 d10 (by simp [size_putT, ha]) (by simp [eval_putT, size_putT, ha, ha2, ha5, ha6, ha7, ha8])) (fun X hX => exec_eqlnum (n := n) (m := n) Try.underlying3 e13 (by simp [eval_putT, size_putT, ha, ha2, ha5, ha6, ha7, ha8]) (by simp [eval_putT, size_putT, ha, ha2, ha5, ha6, ha7, ha8]) (by simp)) hS2 ?_
  rw [show (LR 16 [0, 1, 2, 3, 4, 5, 6, 7, 8, 9, 10, 11, 12]).setIfInBounds 13 true = (LR 16 [0, 1, 2, 3, 4, 5, 6, 7, 8, 9, 10, 11, 12, 13]) from by decide]
  rw [d13]
  refine heldS_take (i := 14) (v := .bool true) p14 hsel f14 c14 (wanted_none g14) (fun X hX => exec_pick (b := true) (v := .bool true) e14 (by simp [eval_putT, size_putT, ha, ha2, ha5, ha6, ha7, ha8]) (by simp [eval_putT, size_putT, ha, ha2, ha5, ha6, ha7, ha8]) rfl) hS2 ?_
  rw [show (LR 16 [0, 1, 2, 3, 4, 5, 6, 7, 8, 9, 10, 11, 12, 13]).setIfInBounds 14 true = (LR 16 [0, 1, 2, 3, 4, 5, 6, 7, 8, 9, 10, 11, 12, 13, 14]) from by decide]
  rw [d14]
  refine heldS_take (i := 15) (v := .bool true) p15 hsel f15 c15 (wanted_none g15) (fun X hX => exec_assign e15 (by simp [eval_putT, size_putT, ha, ha2, ha5, ha6, ha7, ha8])) hS2 ?_
  rw [show (LR 16 [0, 1, 2, 3, 4, 5, 6, 7, 8, 9, 10, 11, 12, 13, 14]).setIfInBounds 15 true = (LR 16 [0, 1, 2, 3, 4, 5, 6, 7, 8, 9, 10, 11, 12, 13, 14, 15]) from by decide]
  rw [d15]
  exact wpAnyH_done rN ⟨rfl, fin X2 (((Below.refl W.heap.size W).drew).trans (q1.trans (q2.mono q1.size)))⟩ _
set_option maxRecDepth 100000 in
set_option maxHeartbeats 2000000 in
theorem texts_yes (h : List Int) (hb : Bytes h) (s : ByteArray) (hs : s.size ≤ 200) (f : Nat → Int) (n : Int) (w : World)
    (hp : ∀ w, Calls Try.prog 4 #[.string s] w fun e w' => e = .returned (.tuple #[.agg (nums .u8 32 f), .int .i64 n]) ∧ Below w.heap.size w w')
    (hq : ∀ w, Calls Try.prog 5 #[.string s] w fun e w' => e = .returned (.tuple #[.agg (nums .u8 32 f), .int .i64 n]) ∧ Below w.heap.size w w') :
    Calls Try.prog 3 #[.agg (nums .u8 32 (bf h)), .string s] w fun e w' => e = .returned (.bool true) ∧ Below w.heap.size w w' := by
  have zh := (zero_of_info zero_hash).1
  have A0 := At.new 22 w (nums .u8 32 (bf h))
  have B0 : Below w.heap.size w (w.alloc (.cells (nums .u8 32 (bf h)) 22)) := (Below.refl _ w).alloc (Nat.le_refl _) _
  have C0 := Lib.hid (And.intro A0 B0)
  have ST := Lib.hid (show ∀ X Y, (At 22 X w.heap.size (nums .u8 32 (bf h)) ∧ Below w.heap.size w X) → Below X.heap.size X Y → (At 22 Y w.heap.size (nums .u8 32 (bf h)) ∧ Below w.heap.size w Y) from fun X Y ⟨a, b⟩ q => ⟨At.below a a.lt q, b.trans (q.mono b.size)⟩)
  have HP := Lib.hid hp
  have HQ := Lib.hid hq
  clear A0 B0 hp hq
  go_enter Try.func3, Try.ntmps3
  go_wp2_with fail
  refine (HP.out _).mono ?_
  rintro e w1 ⟨rfl, hB1⟩
  have C1 := Lib.hid (ST.out _ _ C0.out hB1)
  have N1 := Lib.hid (At.new 23 w1 (nums .u8 32 fun _ => 0))
  clear hB1 C0
  go_wp2_with (first | (refine store_hash N1.out rfl rfl rfl rfl ?_) | fail)
  have hB2 : Below w1.heap.size w1 ((w1.alloc (.cells (nums .u8 32 fun _ => 0) 23)).setRow w1.heap.size (nums .u8 32 f)) := below_row ((Below.refl _ w1).alloc (Nat.le_refl _) _) (Nat.le_refl _) _
  have C2 := Lib.hid (ST.out _ _ C1.out hB2)
  have P2 : At 23 ((w1.alloc (.cells (nums .u8 32 fun _ => 0) 23)).setRow w1.heap.size (nums .u8 32 f)) w1.heap.size (nums .u8 32 f) := N1.out.row
  generalize (w1.alloc (.cells (nums .u8 32 fun _ => 0) 23)).setRow w1.heap.size (nums .u8 32 f) = w2 at *
  obtain ⟨g5, hg5⟩ : ∃ g, w1.heap.size = g := ⟨_, rfl⟩
  rw [hg5] at P2 ⊢
  have Q2 := Lib.hid P2
  clear hB2 P2 hg5 N1 C1
  refine (HQ.out _).mono ?_
  rintro e w3 ⟨rfl, hB3⟩
  have C3 := Lib.hid (ST.out _ _ C2.out hB3)
  have Q3 := Lib.hid (At.below Q2.out Q2.out.lt hB3)
  have N3 := Lib.hid (At.new 23 w3 (nums .u8 32 fun _ => 0))
  clear hB3 C2 Q2
  go_wp2_with (first | (refine store_hash N3.out rfl rfl rfl rfl ?_) | fail)
  have hB4 : Below w3.heap.size w3 ((w3.alloc (.cells (nums .u8 32 fun _ => 0) 23)).setRow w3.heap.size (nums .u8 32 f)) := below_row ((Below.refl _ w3).alloc (Nat.le_refl _) _) (Nat.le_refl _) _
  have C4 := Lib.hid (ST.out _ _ C3.out hB4)
  have Q4 := Lib.hid (At.below Q3.out Q3.out.lt hB4)
  have P4 : At 23 ((w3.alloc (.cells (nums .u8 32 fun _ => 0) 23)).setRow w3.heap.size (nums .u8 32 f)) w3.heap.size (nums .u8 32 f) := N3.out.row
  generalize (w3.alloc (.cells (nums .u8 32 fun _ => 0) 23)).setRow w3.heap.size (nums .u8 32 f) = w4 at *
  obtain ⟨g7, hg7⟩ : ∃ g, w3.heap.size = g := ⟨_, rfl⟩
  rw [hg7] at P4 ⊢
  clear hB4 hg7 N3 C3
  refine region_texts rfl rfl (by kernel_rfl) _ _ _ _ _ _ _ _ _ _ _ _ _ _ _ _ rfl rfl rfl rfl rfl rfl rfl rfl rfl rfl rfl rfl rfl rfl rfl rfl rfl rfl rfl rfl rfl rfl rfl rfl rfl rfl rfl rfl rfl rfl rfl rfl rfl rfl rfl rfl rfl rfl rfl rfl rfl rfl rfl rfl rfl rfl rfl rfl rfl rfl rfl rfl rfl rfl rfl rfl rfl rfl rfl rfl rfl rfl rfl rfl (by kernel_rfl) (by kernel_rfl) (by kernel_rfl) (by kernel_rfl) (by kernel_rfl) (by kernel_rfl) (by kernel_rfl) (by kernel_rfl) (by kernel_rfl) (by kernel_rfl) (by kernel_rfl) (by kernel_rfl) (by kernel_rfl) (by kernel_rfl) (by kernel_rfl) (by kernel_rfl) (by kernel_rfl) (by kernel_rfl) (by kernel_rfl) (by kernel_rfl) (by kernel_rfl) (by kernel_rfl) (by kernel_rfl) (by kernel_rfl) (by kernel_rfl) (by kernel_rfl) (by kernel_rfl) (by kernel_rfl) (by kernel_rfl) (by kernel_rfl) (by kernel_rfl) _ rfl w.heap.size g5 g7 h hb f n w4 ⟨C4.out.1, Q4.out, P4⟩ rfl rfl rfl rfl rfl ?_
  intro X hX
  have CX := Lib.hid (ST.out _ _ C4.out hX)
  clear hX C4 Q4 P4
  simp only [Act.put, List.setIfInBounds_toArray, List.set_cons_zero, List.set_cons_succ]
  go_wp2
  go_ret
  exact ⟨rfl, CX.out.2⟩
set_option maxRecDepth 100000 in
theorem texts_long (h : List Int) (s : ByteArray) (hs : 200 < s.size) (w : World) :
    Calls Try.prog 3 #[.agg (nums .u8 32 (bf h)), .string s] w fun e w' => e = .returned (.bool true) ∧ Below w.heap.size w w' := by
  go_enter Try.func3, Try.ntmps3
  go_wp2
  go_ret
  exact ⟨rfl, (Below.refl _ w).alloc (Nat.le_refl _) _⟩
theorem texts_any (h : List Int) (s : ByteArray) (w : World) (hh : Bytes h ∧ h.length = 32) (_ : s.size ≤ maxLen) :
    Calls Try.prog 3 #[.agg (nums .u8 32 (bf h)), .string s] w fun e w' => e = .returned (.bool true) ∧ Below w.heap.size w w' := by
  by_cases hs : s.size ≤ 200
  · by_cases hx : HexText (strB s)
    · exact texts_yes h hh.1 s hs (bf (hashOf (strB s))) 0 w (fun w => (parse_any s w).mono fun e w' ⟨he, hB⟩ => ⟨he.elim (fun x => x.2) (fun x => absurd hx x.1), hB⟩) (fun w => (rparse_any s w).mono fun e w' ⟨he, hB⟩ => ⟨he.elim (fun x => x.2) (fun x => absurd hx x.1), hB⟩)
    · exact texts_yes h hh.1 s hs (fun _ => 0) 40 w (fun w => (parse_any s w).mono fun e w' ⟨he, hB⟩ => ⟨he.elim (fun x => absurd x.1 hx) (fun x => x.2), hB⟩) (fun w => (rparse_any s w).mono fun e w' ⟨he, hB⟩ => ⟨he.elim (fun x => absurd x.1 hx) (fun x => x.2), hB⟩)
  · exact texts_long h s (by omega) w
end Go.Proofs.Ythjjlkoddmljbaa
