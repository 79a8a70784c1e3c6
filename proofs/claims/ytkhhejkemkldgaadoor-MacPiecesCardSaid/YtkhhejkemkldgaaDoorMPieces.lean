/- The walk of the statement MacPieces. -/
import Derived.Test.YtkhhejkemkldgaaDoorMAlive
import Derived.Test.YtkhhejkemkldgaaDoorMIs
import Derived.Test.YtkhhejkemkldgaaDoorSEq
set_option linter.unusedVariables false
set_option linter.unusedSimpArgs false
namespace Go.Proofs.YtkhhejkemkldgaaDoor
open Go.RowKit Go.Shelf
/-- Three hashes lie. -/
def SS (G1 G2 G3 : Nat) (ga gb : Nat → Int) (X : World) : Prop := At 38 X G1 (nums .u8 32 ga) ∧ At 38 X G2 (nums .u8 32 gb) ∧ At 38 X G3 (nums .u8 32 ga)
theorem SS.below {G1 G2 G3 : Nat} {ga gb : Nat → Int} {X Y : World} (h : SS G1 G2 G3 ga gb X) (hb : Below X.heap.size X Y) : SS G1 G2 G3 ga gb Y := ⟨h.1.below h.1.lt hb, h.2.1.below h.2.1.lt hb, h.2.2.below h.2.2.lt hb⟩
theorem At.grown {T : TypeId} {X Y : World} {b N : Nat} {cs : Array Value} (h : At T X b cs) (hg : X.grownBy Y (some N)) (hne : b ≠ N) : At T Y b cs := (hg.block b h.lt (fun e => hne (by injection e))).trans h
set_option maxHeartbeats 1000000 in
theorem region_mpieces {id : Nat} {Q : Exit → Act → World → Prop} {L0 : List Oper} {ops : Array Oper} (hops : L0.toArray = ops) (hlen : ops.size = 27) (hsel : Region.noSelect ops = true) (o0 o1 o2 o3 o4 o5 o6 o7 o8 o9 o10 o11 o12 o13 o14 o15 o16 o17 o18 o19 o20 o21 o22 o23 o24 o25 o26 : Oper)
    (p0 : ops[0]? = some o0) (e0 : o0.op = .move (.tmp 7)) (d0 : o0.dst = some 57) (g0 : o0.guard = none)
    (p1 : ops[1]? = some o1) (e1 : o1.op = .move (.tmp 57)) (d1 : o1.dst = some 58) (g1 : o1.guard = none)
    (p2 : ops[2]? = some o2) (e2 : o2.op = .load 38 (.tmp 11)) (d2 : o2.dst = some 59) (g2 : o2.guard = some (1, true))
    (p3 : ops[3]? = some o3) (e3 : o3.op = .move (.tmp 0)) (d3 : o3.dst = some 60) (g3 : o3.guard = some (1, true))
    (p4 : ops[4]? = some o4) (e4 : o4.op = .move (.tmp 1)) (d4 : o4.dst = some 61) (g4 : o4.guard = some (1, true))
    (p5 : ops[5]? = some o5) (e5 : o5.op = .call { callee := .value (.func 19), args := #[.tmp 60, .tmp 61], argTypes := #[33, 33] }) (d5 : o5.dst = some 62) (g5 : o5.guard = some (1, true))
    (p6 : ops[6]? = some o6) (e6 : o6.op = .binOp .eql 38 (.tmp 59) (.tmp 62) 38) (d6 : o6.dst = some 63) (g6 : o6.guard = some (1, true))
    (p7 : ops[7]? = some o7) (e7 : o7.op = .pick (.tmp 58) (.tmp 63) (.const (.bool false))) (d7 : o7.dst = some 64) (g7 : o7.guard = none)
    (p8 : ops[8]? = some o8) (e8 : o8.op = .move (.tmp 64)) (d8 : o8.dst = some 65) (g8 : o8.guard = none)
    (p9 : ops[9]? = some o9) (e9 : o9.op = .load 38 (.tmp 12)) (d9 : o9.dst = some 66) (g9 : o9.guard = some (8, true))
    (p10 : ops[10]? = some o10) (e10 : o10.op = .move (.tmp 0)) (d10 : o10.dst = some 67) (g10 : o10.guard = some (8, true))
    (p11 : ops[11]? = some o11) (e11 : o11.op = .move (.tmp 8)) (d11 : o11.dst = some 68) (g11 : o11.guard = some (8, true))
    (p12 : ops[12]? = some o12) (e12 : o12.op = .call { callee := .value (.func 19), args := #[.tmp 67, .tmp 68], argTypes := #[33, 33] }) (d12 : o12.dst = some 69) (g12 : o12.guard = some (8, true))
    (p13 : ops[13]? = some o13) (e13 : o13.op = .binOp .eql 38 (.tmp 66) (.tmp 69) 38) (d13 : o13.dst = some 70) (g13 : o13.guard = some (8, true))
    (p14 : ops[14]? = some o14) (e14 : o14.op = .pick (.tmp 65) (.tmp 70) (.const (.bool false))) (d14 : o14.dst = some 71) (g14 : o14.guard = none)
    (p15 : ops[15]? = some o15) (e15 : o15.op = .move (.tmp 71)) (d15 : o15.dst = some 72) (g15 : o15.guard = none)
    (p16 : ops[16]? = some o16) (e16 : o16.op = .load 38 (.tmp 13)) (d16 : o16.dst = some 73) (g16 : o16.guard = some (15, true))
    (p17 : ops[17]? = some o17) (e17 : o17.op = .load 38 (.tmp 11)) (d17 : o17.dst = some 74) (g17 : o17.guard = some (15, true))
    (p18 : ops[18]? = some o18) (e18 : o18.op = .binOp .eql 38 (.tmp 73) (.tmp 74) 38) (d18 : o18.dst = some 75) (g18 : o18.guard = some (15, true))
    (p19 : ops[19]? = some o19) (e19 : o19.op = .pick (.tmp 72) (.tmp 75) (.const (.bool false))) (d19 : o19.dst = some 76) (g19 : o19.guard = none)
    (p20 : ops[20]? = some o20) (e20 : o20.op = .move (.tmp 76)) (d20 : o20.dst = some 77) (g20 : o20.guard = none)
    (p21 : ops[21]? = some o21) (e21 : o21.op = .move (.tmp 10)) (d21 : o21.dst = some 78) (g21 : o21.guard = some (20, true))
    (p22 : ops[22]? = some o22) (e22 : o22.op = .call { callee := .value (.func 20), args := #[.tmp 78], argTypes := #[44] }) (d22 : o22.dst = some 79) (g22 : o22.guard = some (20, true))
    (p23 : ops[23]? = some o23) (e23 : o23.op = .load 38 (.tmp 12)) (d23 : o23.dst = some 80) (g23 : o23.guard = some (20, true))
    (p24 : ops[24]? = some o24) (e24 : o24.op = .binOp .eql 38 (.tmp 79) (.tmp 80) 38) (d24 : o24.dst = some 81) (g24 : o24.guard = some (20, true))
    (p25 : ops[25]? = some o25) (e25 : o25.op = .pick (.tmp 77) (.tmp 81) (.const (.bool false))) (d25 : o25.dst = some 82) (g25 : o25.guard = none)
    (p26 : ops[26]? = some o26) (e26 : o26.op = .assign (.tmp 82)) (d26 : o26.dst = some 6) (g26 : o26.guard = none)
    (f0 : Region.free .any ops (LR 27 []) 0 = true) (c0 : (Region.ready .any ops (LR 27 [])).contains 0 = true)
    (f1 : Region.free .any ops (LR 27 [0]) 1 = true) (c1 : (Region.ready .any ops (LR 27 [0])).contains 1 = true)
    (f3 : Region.free .any ops (LR 27 [0, 1]) 3 = true) (c3 : (Region.ready .any ops (LR 27 [0, 1])).contains 3 = true)
    (f4 : Region.free .any ops (LR 27 [0, 1, 3]) 4 = true) (c4 : (Region.ready .any ops (LR 27 [0, 1, 3])).contains 4 = true)
    (f2 : Region.free .any ops (LR 27 [0, 1, 3, 4]) 2 = true) (c2 : (Region.ready .any ops (LR 27 [0, 1, 3, 4])).contains 2 = true)
    (r5 : Region.ready .any ops (LR 27 [0, 1, 2, 3, 4]) = [5])
    (f6 : Region.free .any ops (LR 27 [0, 1, 2, 3, 4, 5]) 6 = true) (c6 : (Region.ready .any ops (LR 27 [0, 1, 2, 3, 4, 5])).contains 6 = true)
    (f7 : Region.free .any ops (LR 27 [0, 1, 2, 3, 4, 5, 6]) 7 = true) (c7 : (Region.ready .any ops (LR 27 [0, 1, 2, 3, 4, 5, 6])).contains 7 = true)
    (f8 : Region.free .any ops (LR 27 [0, 1, 2, 3, 4, 5, 6, 7]) 8 = true) (c8 : (Region.ready .any ops (LR 27 [0, 1, 2, 3, 4, 5, 6, 7])).contains 8 = true)
    (f10 : Region.free .any ops (LR 27 [0, 1, 2, 3, 4, 5, 6, 7, 8]) 10 = true) (c10 : (Region.ready .any ops (LR 27 [0, 1, 2, 3, 4, 5, 6, 7, 8])).contains 10 = true)
    (f11 : Region.free .any ops (LR 27 [0, 1, 2, 3, 4, 5, 6, 7, 8, 10]) 11 = true) (c11 : (Region.ready .any ops (LR 27 [0, 1, 2, 3, 4, 5, 6, 7, 8, 10])).contains 11 = true)
    (f9 : Region.free .any ops (LR 27 [0, 1, 2, 3, 4, 5, 6, 7, 8, 10, 11]) 9 = true) (c9 : (Region.ready .any ops (LR 27 [0, 1, 2, 3, 4, 5, 6, 7, 8, 10, 11])).contains 9 = true)
    (r12 : Region.ready .any ops (LR 27 [0, 1, 2, 3, 4, 5, 6, 7, 8, 9, 10, 11]) = [12])
    (f13 : Region.free .any ops (LR 27 [0, 1, 2, 3, 4, 5, 6, 7, 8, 9, 10, 11, 12]) 13 = true) (c13 : (Region.ready .any ops (LR 27 [0, 1, 2, 3, 4, 5, 6, 7, 8, 9, 10, 11, 12])).contains 13 = true)
    (f14 : Region.free .any ops (LR 27 [0, 1, 2, 3, 4, 5, 6, 7, 8, 9, 10, 11, 12, 13]) 14 = true) (c14 : (Region.ready .any ops (LR 27 [0, 1, 2, 3, 4, 5, 6, 7, 8, 9, 10, 11, 12, 13])).contains 14 = true)
    (f15 : Region.free .any ops (LR 27 [0, 1, 2, 3, 4, 5, 6, 7, 8, 9, 10, 11, 12, 13, 14]) 15 = true) (c15 : (Region.ready .any ops (LR 27 [0, 1, 2, 3, 4, 5, 6, 7, 8, 9, 10, 11, 12, 13, 14])).contains 15 = true)
    (f16 : Region.free .any ops (LR 27 [0, 1, 2, 3, 4, 5, 6, 7, 8, 9, 10, 11, 12, 13, 14, 15]) 16 = true) (c16 : (Region.ready .any ops (LR 27 [0, 1, 2, 3, 4, 5, 6, 7, 8, 9, 10, 11, 12, 13, 14, 15])).contains 16 = true)
    (f17 : Region.free .any ops (LR 27 [0, 1, 2, 3, 4, 5, 6, 7, 8, 9, 10, 11, 12, 13, 14, 15, 16]) 17 = true) (c17 : (Region.ready .any ops (LR 27 [0, 1, 2, 3, 4, 5, 6, 7, 8, 9, 10, 11, 12, 13, 14, 15, 16])).contains 17 = true)
    (f18 : Region.free .any ops (LR 27 [0, 1, 2, 3, 4, 5, 6, 7, 8, 9, 10, 11, 12, 13, 14, 15, 16, 17]) 18 = true) (c18 : (Region.ready .any ops (LR 27 [0, 1, 2, 3, 4, 5, 6, 7, 8, 9, 10, 11, 12, 13, 14, 15, 16, 17])).contains 18 = true)
    (f19 : Region.free .any ops (LR 27 [0, 1, 2, 3, 4, 5, 6, 7, 8, 9, 10, 11, 12, 13, 14, 15, 16, 17, 18]) 19 = true) (c19 : (Region.ready .any ops (LR 27 [0, 1, 2, 3, 4, 5, 6, 7, 8, 9, 10, 11, 12, 13, 14, 15, 16, 17, 18])).contains 19 = true)
    (f20 : Region.free .any ops (LR 27 [0, 1, 2, 3, 4, 5, 6, 7, 8, 9, 10, 11, 12, 13, 14, 15, 16, 17, 18, 19]) 20 = true) (c20 : (Region.ready .any ops (LR 27 [0, 1, 2, 3, 4, 5, 6, 7, 8, 9, 10, 11, 12, 13, 14, 15, 16, 17, 18, 19])).contains 20 = true)
    (f21 : Region.free .any ops (LR 27 [0, 1, 2, 3, 4, 5, 6, 7, 8, 9, 10, 11, 12, 13, 14, 15, 16, 17, 18, 19, 20]) 21 = true) (c21 : (Region.ready .any ops (LR 27 [0, 1, 2, 3, 4, 5, 6, 7, 8, 9, 10, 11, 12, 13, 14, 15, 16, 17, 18, 19, 20])).contains 21 = true)
    (f23 : Region.free .any ops (LR 27 [0, 1, 2, 3, 4, 5, 6, 7, 8, 9, 10, 11, 12, 13, 14, 15, 16, 17, 18, 19, 20, 21]) 23 = true) (c23 : (Region.ready .any ops (LR 27 [0, 1, 2, 3, 4, 5, 6, 7, 8, 9, 10, 11, 12, 13, 14, 15, 16, 17, 18, 19, 20, 21])).contains 23 = true)
    (r22 : Region.ready .any ops (LR 27 [0, 1, 2, 3, 4, 5, 6, 7, 8, 9, 10, 11, 12, 13, 14, 15, 16, 17, 18, 19, 20, 21, 23]) = [22])
    (f24 : Region.free .any ops (LR 27 [0, 1, 2, 3, 4, 5, 6, 7, 8, 9, 10, 11, 12, 13, 14, 15, 16, 17, 18, 19, 20, 21, 22, 23]) 24 = true) (c24 : (Region.ready .any ops (LR 27 [0, 1, 2, 3, 4, 5, 6, 7, 8, 9, 10, 11, 12, 13, 14, 15, 16, 17, 18, 19, 20, 21, 22, 23])).contains 24 = true)
    (f25 : Region.free .any ops (LR 27 [0, 1, 2, 3, 4, 5, 6, 7, 8, 9, 10, 11, 12, 13, 14, 15, 16, 17, 18, 19, 20, 21, 22, 23, 24]) 25 = true) (c25 : (Region.ready .any ops (LR 27 [0, 1, 2, 3, 4, 5, 6, 7, 8, 9, 10, 11, 12, 13, 14, 15, 16, 17, 18, 19, 20, 21, 22, 23, 24])).contains 25 = true)
    (f26 : Region.free .any ops (LR 27 [0, 1, 2, 3, 4, 5, 6, 7, 8, 9, 10, 11, 12, 13, 14, 15, 16, 17, 18, 19, 20, 21, 22, 23, 24, 25]) 26 = true) (c26 : (Region.ready .any ops (LR 27 [0, 1, 2, 3, 4, 5, 6, 7, 8, 9, 10, 11, 12, 13, 14, 15, 16, 17, 18, 19, 20, 21, 22, 23, 24, 25])).contains 26 = true)
    (rN : Region.ready .any ops (LR 27 [0, 1, 2, 3, 4, 5, 6, 7, 8, 9, 10, 11, 12, 13, 14, 15, 16, 17, 18, 19, 20, 21, 22, 23, 24, 25, 26]) = [])
    (a : Act) (ha : a.tmps.size = 83) (G1 G2 G3 : Nat) (ga gb : Nat → Int) (A Bb Cc : Option Addr) (la ca lb cb lc cc Mc : Nat) (W : World) (hS : SS G1 G2 G3 ga gb W) (hcA : ∀ X, Below W.heap.size W X → Calls Tryd.prog 19 #[.slice A la ca, .slice Bb lb cb] X fun e w' => e = .returned (.agg (nums .u8 32 ga)) ∧ Below X.heap.size X w') (hcB : ∀ X, Below W.heap.size W X → Calls Tryd.prog 19 #[.slice A la ca, .slice Cc lc cc] X fun e w' => e = .returned (.agg (nums .u8 32 gb)) ∧ Below X.heap.size X w') (hcC : ∀ X, Below W.heap.size W X → Calls Tryd.prog 20 #[.pointer (some ⟨Mc, 0, none⟩)] X fun e w' => e = .returned (.agg (nums .u8 32 gb)) ∧ Below X.heap.size X w') (ha0 : a.eval (.tmp 0) = .slice A la ca) (ha1 : a.eval (.tmp 1) = .slice Bb lb cb) (ha7 : a.eval (.tmp 7) = .bool true) (ha8 : a.eval (.tmp 8) = .slice Cc lc cc) (ha10 : a.eval (.tmp 10) = .pointer (some ⟨Mc, 0, none⟩)) (ha11 : a.eval (.tmp 11) = .pointer (some ⟨G1, 0, none⟩)) (ha12 : a.eval (.tmp 12) = .pointer (some ⟨G2, 0, none⟩)) (ha13 : a.eval (.tmp 13) = .pointer (some ⟨G3, 0, none⟩))
    (fin : ∀ X, Below W.heap.size W X → Q .normal ((((((((((((((((((((((((((((a.put (some 57) (.bool true)).put (some 58) (.bool true)).put (some 60) (.slice A la ca)).put (some 61) (.slice Bb lb cb)).put (some 59) (.agg (nums .u8 32 ga))).put (some 62) (.agg (nums .u8 32 ga))).put (some 63) (.bool true)).put (some 64) (.bool true)).put (some 65) (.bool true)).put (some 67) (.slice A la ca)).put (some 68) (.slice Cc lc cc)).put (some 66) (.agg (nums .u8 32 gb))).put (some 69) (.agg (nums .u8 32 gb))).put (some 70) (.bool true)).put (some 71) (.bool true)).put (some 72) (.bool true)).put (some 73) (.agg (nums .u8 32 ga))).put (some 74) (.agg (nums .u8 32 ga))).put (some 75) (.bool true)).put (some 76) (.bool true)).put (some 77) (.bool true)).put (some 78) (.pointer (some ⟨Mc, 0, none⟩))).put (some 80) (.agg (nums .u8 32 gb))).put (some 79) (.agg (nums .u8 32 gb))).put (some 81) (.bool true)).put (some 82) (.bool true)).put (some 6) (.bool true))) X) :
    (Code.region id L0.toArray true).wp Tryd.prog Q a W := by
  subst hops
  refine wp_mono (Q := plainQ Q) (wp_region_held (S := SS G1 G2 G3 ga gb) (by kernel_rfl) ?_) (fun e a w h => by obtain ⟨rfl, h⟩ := h; exact h)
  change wpAnyH _ _ _ _ _ L0.toArray.size _ _ W.drew
  rw [hlen]
  rw [show Array.replicate 27 false = LR 27 [] from by decide]
  have hS0 := hS
  refine heldS_take (i := 0) (v := .bool true) p0 hsel f0 c0 (wanted_none g0) (fun X hX => exec_move e0 (by simp [eval_putT, size_putT, ha, ha0, ha1, ha7, ha8, ha10, ha11, ha12, ha13])) hS ?_
  rw [show (LR 27 []).setIfInBounds 0 true = (LR 27 [0]) from by decide]
  rw [d0]
  refine heldS_take (i := 1) (v := .bool true) p1 hsel f1 c1 (wanted_none g1) (fun X hX => exec_move e1 (by simp [eval_putT, size_putT, ha, ha0, ha1, ha7, ha8, ha10, ha11, ha12, ha13])) hS ?_
  rw [show (LR 27 [0]).setIfInBounds 1 true = (LR 27 [0, 1]) from by decide]
  rw [d1]
  refine heldS_take (i := 3) (v := .slice A la ca) p3 hsel f3 c3 (wanted_some g3 p1 d1 (by simp [size_putT, ha]) (by simp [eval_putT, size_putT, ha, ha0, ha1, ha7, ha8, ha10, ha11, ha12, ha13])) (fun X hX => exec_move e3 (by simp [eval_putT, size_putT, ha, ha0, ha1, ha7, ha8, ha10, ha11, ha12, ha13])) hS ?_
  rw [show (LR 27 [0, 1]).setIfInBounds 3 true = (LR 27 [0, 1, 3]) from by decide]
  rw [d3]
  refine heldS_take (i := 4) (v := .slice Bb lb cb) p4 hsel f4 c4 (wanted_some g4 p1 d1 (by simp [size_putT, ha]) (by simp [eval_putT, size_putT, ha, ha0, ha1, ha7, ha8, ha10, ha11, ha12, ha13])) (fun X hX => exec_move e4 (by simp [eval_putT, size_putT, ha, ha0, ha1, ha7, ha8, ha10, ha11, ha12, ha13])) hS ?_
  rw [show (LR 27 [0, 1, 3]).setIfInBounds 4 true = (LR 27 [0, 1, 3, 4]) from by decide]
  rw [d4]
  refine heldS_take (i := 2) (v := .agg (nums .u8 32 ga)) p2 hsel f2 c2 (wanted_some g2 p1 d1 (by simp [size_putT, ha]) (by simp [eval_putT, size_putT, ha, ha0, ha1, ha7, ha8, ha10, ha11, ha12, ha13])) (fun X hX => exec_loadhash e2 (by simp [eval_putT, size_putT, ha, ha0, ha1, ha7, ha8, ha10, ha11, ha12, ha13]) hX.1) hS ?_
  rw [show (LR 27 [0, 1, 3, 4]).setIfInBounds 2 true = (LR 27 [0, 1, 2, 3, 4]) from by decide]
  rw [d2]
  refine heldS_one p5 r5 (wanted_some g5 p1 d1 (by simp [size_putT, ha]) (by simp [eval_putT, size_putT, ha, ha0, ha1, ha7, ha8, ha10, ha11, ha12, ha13])) ?_
  refine wp_call e5 (by simp [eval_putT, size_putT, ha, ha0, ha1, ha7, ha8, ha10, ha11, ha12, ha13]) (enters_of Tryd.func19 (by kernel_rfl) rfl) (hcA W.drew (Below.refl _ W).drew) ?_
  intro X1 q1
  have b1 := Below.draw1 q1
  have s1 := SS.below hS b1
  refine ⟨s1, ?_⟩
  rw [show (LR 27 [0, 1, 2, 3, 4]).setIfInBounds 5 true = (LR 27 [0, 1, 2, 3, 4, 5]) from by decide]
  rw [d5]
  refine heldS_take (i := 6) (v := .bool true) p6 hsel f6 c6 (wanted_some g6 p1 d1 (by simp [size_putT, ha]) (by simp [eval_putT, size_putT, ha, ha0, ha1, ha7, ha8, ha10, ha11, ha12, ha13])) (fun X hX => exec_eqhash (f := ga) e6 (by simp [eval_putT, size_putT, ha, ha0, ha1, ha7, ha8, ha10, ha11, ha12, ha13]) (by simp [eval_putT, size_putT, ha, ha0, ha1, ha7, ha8, ha10, ha11, ha12, ha13])) s1 ?_
  rw [show (LR 27 [0, 1, 2, 3, 4, 5]).setIfInBounds 6 true = (LR 27 [0, 1, 2, 3, 4, 5, 6]) from by decide]
  rw [d6]
  refine heldS_take (i := 7) (v := .bool true) p7 hsel f7 c7 (wanted_none g7) (fun X hX => exec_pick (b := true) (v := .bool true) e7 (by simp [eval_putT, size_putT, ha, ha0, ha1, ha7, ha8, ha10, ha11, ha12, ha13]) (by simp [eval_putT, size_putT, ha, ha0, ha1, ha7, ha8, ha10, ha11, ha12, ha13]) rfl) s1 ?_
  rw [show (LR 27 [0, 1, 2, 3, 4, 5, 6]).setIfInBounds 7 true = (LR 27 [0, 1, 2, 3, 4, 5, 6, 7]) from by decide]
  rw [d7]
  refine heldS_take (i := 8) (v := .bool true) p8 hsel f8 c8 (wanted_none g8) (fun X hX => exec_move e8 (by simp [eval_putT, size_putT, ha, ha0, ha1, ha7, ha8, ha10, ha11, ha12, ha13])) s1 ?_
  rw [show (LR 27 [0, 1, 2, 3, 4, 5, 6, 7]).setIfInBounds 8 true = (LR 27 [0, 1, 2, 3, 4, 5, 6, 7, 8]) from by decide]
  rw [d8]
  refine heldS_take (i := 10) (v := .slice A la ca) p10 hsel f10 c10 (wanted_some g10 p8 d8 (by simp [size_putT, ha]) (by simp [eval_putT, size_putT, ha, ha0, ha1, ha7, ha8, ha10, ha11, ha12, ha13])) (fun X hX => exec_move e10 (by simp [eval_putT, size_putT, ha, ha0, ha1, ha7, ha8, ha10, ha11, ha12, ha13])) s1 ?_
  rw [show (LR 27 [0, 1, 2, 3, 4, 5, 6, 7, 8]).setIfInBounds 10 true = (LR 27 [0, 1, 2, 3, 4, 5, 6, 7, 8, 10]) from by decide]
  rw [d10]
  refine heldS_take (i := 11) (v := .slice Cc lc cc) p11 hsel f11 c11 (wanted_some g11 p8 d8 (by simp [size_putT, ha]) (by simp [eval_putT, size_putT, ha, ha0, ha1, ha7, ha8, ha10, ha11, ha12, ha13])) (fun X hX => exec_move e11 (by simp [eval_putT, size_putT, ha, ha0, ha1, ha7, ha8, ha10, ha11, ha12, ha13])) s1 ?_
  rw [show (LR 27 [0, 1, 2, 3, 4, 5, 6, 7, 8, 10]).setIfInBounds 11 true = (LR 27 [0, 1, 2, 3, 4, 5, 6, 7, 8, 10, 11]) from by decide]
  rw [d11]
  refine heldS_take (i := 9) (v := .agg (nums .u8 32 gb)) p9 hsel f9 c9 (wanted_some g9 p8 d8 (by simp [size_putT, ha]) (by simp [eval_putT, size_putT, ha, ha0, ha1, ha7, ha8, ha10, ha11, ha12, ha13])) (fun X hX => exec_loadhash e9 (by simp [eval_putT, size_putT, ha, ha0, ha1, ha7, ha8, ha10, ha11, ha12, ha13]) hX.2.1) s1 ?_
  rw [show (LR 27 [0, 1, 2, 3, 4, 5, 6, 7, 8, 10, 11]).setIfInBounds 9 true = (LR 27 [0, 1, 2, 3, 4, 5, 6, 7, 8, 9, 10, 11]) from by decide]
  rw [d9]
  refine heldS_one p12 r12 (wanted_some g12 p8 d8 (by simp [size_putT, ha]) (by simp [eval_putT, size_putT, ha, ha0, ha1, ha7, ha8, ha10, ha11, ha12, ha13])) ?_
  refine wp_call e12 (by simp [eval_putT, size_putT, ha, ha0, ha1, ha7, ha8, ha10, ha11, ha12, ha13]) (enters_of Tryd.func19 (by kernel_rfl) rfl) (hcB X1 b1) ?_
  intro X2 q2
  have b2 := b1.trans (q2.mono b1.size)
  have s2 := SS.below hS b2
  refine ⟨s2, ?_⟩
  rw [show (LR 27 [0, 1, 2, 3, 4, 5, 6, 7, 8, 9, 10, 11]).setIfInBounds 12 true = (LR 27 [0, 1, 2, 3, 4, 5, 6, 7, 8, 9, 10, 11, 12]) from by decide]
  rw [d12]
  refine heldS_take (i := 13) (v := .bool true) p13 hsel f13 c13 (wanted_some g13 p8 d8 (by simp [size_putT, ha]) (by simp [eval_putT, size_putT, ha, ha0, ha1, ha7, ha8, ha10, ha11, ha12, ha13])) (fun X hX => exec_eqhash (f := gb) e13 (by simp [eval_putT, size_putT, ha, ha0, ha1, ha7, ha8, ha10, ha11, ha12, ha13]) (by simp [eval_putT, size_putT, ha, ha0, ha1, ha7, ha8, ha10, ha11, ha12, ha13])) s2 ?_
  rw [show (LR 27 [0, 1, 2, 3, 4, 5, 6, 7, 8, 9, 10, 11, 12]).setIfInBounds 13 true = (LR 27 [0, 1, 2, 3, 4, 5, 6, 7, 8, 9, 10, 11, 12, 13]) from by decide]
  rw [d13]
  refine heldS_take (i := 14) (v := .bool true) p14 hsel f14 c14 (wanted_none g14) (fun X hX => exec_pick (b := true) (v := .bool true) e14 (by simp [eval_putT, size_putT, ha, ha0, ha1, ha7, ha8, ha10, ha11, ha12, ha13]) (by simp [eval_putT, size_putT, ha, ha0, ha1, ha7, ha8, ha10, ha11, ha12, ha13]) rfl) s2 ?_
  rw [show (LR 27 [0, 1, 2, 3, 4, 5, 6, 7, 8, 9, 10, 11, 12, 13]).setIfInBounds 14 true = (LR 27 [0, 1, 2, 3, 4, 5, 6, 7, 8, 9, 10, 11, 12, 13, 14]) from by decide]
  rw [d14]
  refine heldS_take (i := 15) (v := .bool true) p15 hsel f15 c15 (wanted_none g15) (fun X hX => exec_move e15 (by simp [eval_putT, size_putT, ha, ha0, ha1, ha7, ha8, ha10, ha11, ha12, ha13])) s2 ?_
  rw [show (LR 27 [0, 1, 2, 3, 4, 5, 6, 7, 8, 9, 10, 11, 12, 13, 14]).setIfInBounds 15 true = (LR 27 [0, 1, 2, 3, 4, 5, 6, 7, 8, 9, 10, 11, 12, 13, 14, 15]) from by decide]
  rw [d15]
  refine heldS_take (i := 16) (v := .agg (nums .u8 32 ga)) p16 hsel f16 c16 (wanted_some g16 p15 d15 (by simp [size_putT, ha]) (by simp [eval_putT, size_putT, ha, ha0, ha1, ha7, ha8, ha10, ha11, ha12, ha13])) (fun X hX => exec_loadhash e16 (by simp [eval_putT, size_putT, ha, ha0, ha1, ha7, ha8, ha10, ha11, ha12, ha13]) hX.2.2) s2 ?_
  rw [show (LR 27 [0, 1, 2, 3, 4, 5, 6, 7, 8, 9, 10, 11, 12, 13, 14, 15]).setIfInBounds 16 true = (LR 27 [0, 1, 2, 3, 4, 5, 6, 7, 8, 9, 10, 11, 12, 13, 14, 15, 16]) from by decide]
  rw [d16]
  refine heldS_take (i := 17) (v := .agg (nums .u8 32 ga)) p17 hsel f17 c17 (wanted_some g17 p15 d15 (by simp [size_putT, ha]) (by simp [eval_putT, size_putT, ha, ha0, ha1, ha7, ha8, ha10, ha11, ha12, ha13])) (fun X hX => exec_loadhash e17 (by simp [eval_putT, size_putT, ha, ha0, ha1, ha7, ha8, ha10, ha11, ha12, ha13]) hX.1) s2 ?_
  rw [show (LR 27 [0, 1, 2, 3, 4, 5, 6, 7, 8, 9, 10, 11, 12, 13, 14, 15, 16]).setIfInBounds 17 true = (LR 27 [0, 1, 2, 3, 4, 5, 6, 7, 8, 9, 10, 11, 12, 13, 14, 15, 16, 17]) from by decide]
  rw [d17]
  refine heldS_take (i := 18) (v := .bool true) p18 hsel f18 c18 (wanted_some g18 p15 d15 (by simp [size_putT, ha]) (by simp [eval_putT, size_putT, ha, ha0, ha1, ha7, ha8, ha10, ha11, ha12, ha13])) (fun X hX => exec_eqhash (f := ga) e18 (by simp [eval_putT, size_putT, ha, ha0, ha1, ha7, ha8, ha10, ha11, ha12, ha13]) (by simp [eval_putT, size_putT, ha, ha0, ha1, ha7, ha8, ha10, ha11, ha12, ha13])) s2 ?_
  rw [show (LR 27 [0, 1, 2, 3, 4, 5, 6, 7, 8, 9, 10, 11, 12, 13, 14, 15, 16, 17]).setIfInBounds 18 true = (LR 27 [0, 1, 2, 3, 4, 5, 6, 7, 8, 9, 10, 11, 12, 13, 14, 15, 16, 17, 18]) from by decide]
  rw [d18]
  refine heldS_take (i := 19) (v := .bool true) p19 hsel f19 c19 (wanted_none g19) (fun X hX => exec_pick (b := true) (v := .bool true) e19 (by simp [eval_putT, size_putT, ha, ha0, ha1, ha7, ha8, ha10, ha11, ha12, ha13]) (by simp [eval_putT, size_putT, ha, ha0, ha1, ha7, ha8, ha10, ha11, ha12, ha13]) rfl) s2 ?_
  rw [show (LR 27 [0, 1, 2, 3, 4, 5, 6, 7, 8, 9, 10, 11, 12, 13, 14, 15, 16, 17, 18]).setIfInBounds 19 true = (LR 27 [0, 1, 2, 3, 4, 5, 6, 7, 8, 9, 10, 11, 12, 13, 14, 15, 16, 17, 18, 19]) from by decide]
  rw [d19]
  refine heldS_take (i := 20) (v := .bool true) p20 hsel f20 c20 (wanted_none g20) (fun X hX => exec_move e20 (by simp [eval_putT, size_putT, ha, ha0, ha1, ha7, ha8, ha10, ha11, ha12, ha13])) s2 ?_
  rw [show (LR 27 [0, 1, 2, 3, 4, 5, 6, 7, 8, 9, 10, 11, 12, 13, 14, 15, 16, 17, 18, 19]).setIfInBounds 20 true = (LR 27 [0, 1, 2, 3, 4, 5, 6, 7, 8, 9, 10, 11, 12, 13, 14, 15, 16, 17, 18, 19, 20]) from by decide]
  rw [d20]
  refine heldS_take (i := 21) (v := .pointer (some ⟨Mc, 0, none⟩)) p21 hsel f21 c21 (wanted_some g21 p20 d20 (by simp [size_putT, ha]) (by simp [eval_putT, size_putT, ha, ha0, ha1, ha7, ha8, ha10, ha11, ha12, ha13])) (fun X hX => exec_move e21 (by simp [eval_putT, size_putT, ha, ha0, ha1, ha7, ha8, ha10, ha11, ha12, ha13])) s2 ?_
  rw [show (LR 27 [0, 1, 2, 3, 4, 5, 6, 7, 8, 9, 10, 11, 12, 13, 14, 15, 16, 17, 18, 19, 20]).setIfInBounds 21 true = (LR 27 [0, 1, 2, 3, 4, 5, 6, 7, 8, 9, 10, 11, 12, 13, 14, 15, 16, 17, 18, 19, 20, 21]) from by decide]
  rw [d21]
  refine heldS_take (i := 23) (v := .agg (nums .u8 32 gb)) p23 hsel f23 c23 (wanted_some g23 p20 d20 (by simp [size_putT, ha]) (by simp [eval_putT, size_putT, ha, ha0, ha1, ha7, ha8, ha10, ha11, ha12, ha13])) (fun X hX => exec_loadhash e23 (by simp [eval_putT, size_putT, ha, ha0, ha1, ha7, ha8, ha10, ha11, ha12, ha13]) hX.2.1) s2 ?_
  rw [show (LR 27 [0, 1, 2, 3, 4, 5, 6, 7, 8, 9, 10, 11, 12, 13, 14, 15, 16, 17, 18, 19, 20, 21]).setIfInBounds 23 true = (LR 27 [0, 1, 2, 3, 4, 5, 6, 7, 8, 9, 10, 11, 12, 13, 14, 15, 16, 17, 18, 19, 20, 21, 23]) from by decide]
  rw [d23]
  refine heldS_one p22 r22 (wanted_some g22 p20 d20 (by simp [size_putT, ha]) (by simp [eval_putT, size_putT, ha, ha0, ha1, ha7, ha8, ha10, ha11, ha12, ha13])) ?_
  refine wp_call e22 (by simp [eval_putT, size_putT, ha, ha0, ha1, ha7, ha8, ha10, ha11, ha12, ha13]) (enters_of Tryd.func20 (by kernel_rfl) rfl) (hcC X2 b2) ?_
  intro X3 q3
  have b3 := b2.trans (q3.mono b2.size)
  have s3 := SS.below hS b3
  refine ⟨s3, ?_⟩
  rw [show (LR 27 [0, 1, 2, 3, 4, 5, 6, 7, 8, 9, 10, 11, 12, 13, 14, 15, 16, 17, 18, 19, 20, 21, 23]).setIfInBounds 22 true = (LR 27 [0, 1, 2, 3, 4, 5, 6, 7, 8, 9, 10, 11, 12, 13, 14, 15, 16, 17, 18, 19, 20, 21, 22, 23]) from by decide]
  rw [d22]
  refine heldS_take (i := 24) (v := .bool true) p24 hsel f24 c24 (wanted_some g24 p20 d20 (by simp [size_putT, ha]) (by simp [eval_putT, size_putT, ha, ha0, ha1, ha7, ha8, ha10, ha11, ha12, ha13])) (fun X hX => exec_eqhash (f := gb) e24 (by simp [eval_putT, size_putT, ha, ha0, ha1, ha7, ha8, ha10, ha11, ha12, ha13]) (by simp [eval_putT, size_putT, ha, ha0, ha1, ha7, ha8, ha10, ha11, ha12, ha13])) s3 ?_
  rw [show (LR 27 [0, 1, 2, 3, 4, 5, 6, 7, 8, 9, 10, 11, 12, 13, 14, 15, 16, 17, 18, 19, 20, 21, 22, 23]).setIfInBounds 24 true = (LR 27 [0, 1, 2, 3, 4, 5, 6, 7, 8, 9, 10, 11, 12, 13, 14, 15, 16, 17, 18, 19, 20, 21, 22, 23, 24]) from by decide]
  rw [d24]
  refine heldS_take (i := 25) (v := .bool true) p25 hsel f25 c25 (wanted_none g25) (fun X hX => exec_pick (b := true) (v := .bool true) e25 (by simp [eval_putT, size_putT, ha, ha0, ha1, ha7, ha8, ha10, ha11, ha12, ha13]) (by simp [eval_putT, size_putT, ha, ha0, ha1, ha7, ha8, ha10, ha11, ha12, ha13]) rfl) s3 ?_
  rw [show (LR 27 [0, 1, 2, 3, 4, 5, 6, 7, 8, 9, 10, 11, 12, 13, 14, 15, 16, 17, 18, 19, 20, 21, 22, 23, 24]).setIfInBounds 25 true = (LR 27 [0, 1, 2, 3, 4, 5, 6, 7, 8, 9, 10, 11, 12, 13, 14, 15, 16, 17, 18, 19, 20, 21, 22, 23, 24, 25]) from by decide]
  rw [d25]
  refine heldS_take (i := 26) (v := .bool true) p26 hsel f26 c26 (wanted_none g26) (fun X hX => exec_assign e26 (by simp [eval_putT, size_putT, ha, ha0, ha1, ha7, ha8, ha10, ha11, ha12, ha13])) s3 ?_
  rw [show (LR 27 [0, 1, 2, 3, 4, 5, 6, 7, 8, 9, 10, 11, 12, 13, 14, 15, 16, 17, 18, 19, 20, 21, 22, 23, 24, 25]).setIfInBounds 26 true = (LR 27 [0, 1, 2, 3, 4, 5, 6, 7, 8, 9, 10, 11, 12, 13, 14, 15, 16, 17, 18, 19, 20, 21, 22, 23, 24, 25, 26]) from by decide]
  rw [d26]
  exact wpAnyH_done rN ⟨rfl, fin X3 b3⟩ _
set_option maxRecDepth 100000 in
set_option maxHeartbeats 4000000 in
theorem pieces_yes (A : Option Addr) (ks : List Int) (ca : Nat) (B : Option Addr) (xs : List Int) (cb : Nat) (C : Option Addr) (ys : List Int) (cc : Nat) (hk : ks.length ≤ 300) (hx : xs.length ≤ 500) (hy : ys.length ≤ 500) (la : ks.length ≤ ca) (lb : xs.length ≤ cb) (lc : ys.length ≤ cc) (w : World) (hT : Tabs w)
    (ha : Bys8 w.heap.size w (.slice A ks.length ca) ks) (hb : Bys8 w.heap.size w (.slice B xs.length cb) xs) (hc : Bys8 w.heap.size w (.slice C ys.length cc) ys) :
    Calls Tryd.prog 6 #[.slice A ks.length ca, .slice B xs.length cb, .slice C ys.length cc] w fun e w' => e = .returned (.bool true) ∧ Below w.heap.size w w' := by
  have hzh := (zero_of_info zero_hash).1
  have hlt := hT.lt
  have HT := Lib.hid hT
  have HA := Lib.hid ha
  have HB := Lib.hid hb
  have HC := Lib.hid hc
  clear hT ha hb hc
  go_enter Tryd.func6, Tryd.ntmps6
  go_wp2_with fail
  refine (alive_any w HT.out).mono ?_
  rintro e w1 ⟨rfl, hB1⟩
  have hs1 := hB1.size
  have D1 := Lib.hid hB1
  have hl1 : ¬ ((300 : Int) < ks.length) := by omega
  have hl2 : ¬ ((500 : Int) < xs.length) := by omega
  have hl3 : ¬ ((500 : Int) < ys.length) := by omega
  have hal : Below w1.heap.size w1 (w1.alloc (.cells #[] 5)) := (Below.refl _ w1).alloc (Nat.le_refl _) _
  have hb' : Bys8 w.heap.size (w1.alloc (.cells #[] 5)) (.slice B xs.length cb) xs := HB.out.below (D1.out.alloc hs1 _)
  clear hB1
  go_wp2_with (first
    | (at_builtin; refine wpList_bapp8 rfl (.tmp 33) (.tmp 34) rfl w1.heap.size (.slice (some ⟨w1.heap.size, 0, none⟩) 0 0) [] rfl (Own8.empty w1) w.heap.size B xs.length cb xs rfl hb' (by simp; omega) (by simp) ?_; intro a1 c1 v1 hO1 hC1; have hv1 : Below w1.heap.size w1 v1 := hal.trans hC1; have hc1 := HC.out.below (D1.out.trans (hv1.mono hs1)))
    | (at_builtin; refine wpList_bapp8 rfl (.tmp 35) (.tmp 36) rfl w1.heap.size (.slice a1 ([] ++ xs).length c1) ([] ++ xs) rfl hO1 w.heap.size C ys.length cc ys rfl hc1 (by simp; omega) (Nat.le_trans (by simp) hC1.size) ?_; intro a2 c2 w2 hO2 hC2)
    | fail)
  rw [List.nil_append] at hO2
  have D2 := Lib.hid (D1.out.trans ((hv1.trans hC2).mono hs1))
  have O2 := Lib.hid hO2.bys
  have hcap := hO2.cap
  have hs2 : w.heap.size ≤ w2.heap.size := D2.out.size
  have T2 := Lib.hid (HT.out.below hlt D2.out)
  have hal2 : (xs ++ ys).length ≤ 1000 := by rw [List.length_append]; omega
  clear hO2 hC2 hc1 hv1 hO1 hC1 hb' hal hs1 D1 hl1 hl2 hl3
  refine (new_any A ks ca la (by omega) w2 T2.out ((HA.out.below D2.out).mono hs2)).mono ?_
  rintro e w3 ⟨M, rfl, hM, hA3, hB3⟩
  have hMl := hA3.lt
  have A3 := Lib.hid hA3
  have D3 := Lib.hid hB3
  have T3 := Lib.hid (T2.out.below T2.out.lt hB3)
  have hpl := pad_length 54 ks
  have hpo := pad_length 92 ks
  have hM2 : 2 ≤ M := by omega
  clear hA3 hB3
  obtain ⟨ip, hip⟩ : ∃ ip, pad 54 ks = ip := ⟨_, rfl⟩
  obtain ⟨op, hop⟩ : ∃ op, pad 92 ks = op := ⟨_, rfl⟩
  rw [hip] at hpl A3
  rw [hop] at hpo A3
  have HIP := Lib.hid hip
  have HOP := Lib.hid hop
  clear hip hop
  go_wp2_with fail
  refine (mwrite_any M ip op xs B cb hM2 (by omega) (by omega) lb w3 T3.out A3.out (fun X hX => ((HB.out.below (D2.out.trans (D3.out.mono hs2))).apart (by omega) hX).mono (by omega)) HB.out.1).mono ?_
  rintro e w4 ⟨rfl, hA4, hG4⟩
  have hs4 := hG4.size
  have A4 := Lib.hid hA4
  have D4 := Lib.hid (D3.out.trans (grown_below hG4 (B := w2.heap.size) hM (by have := D3.out.size; omega)))
  have T4 := Lib.hid (T3.out.grown hG4 hM2)
  clear hA4 hG4 A3 D3 T3
  go_wp2_with fail
  refine (mcopy_any M _ op (by omega) w4 A4.out).mono ?_
  rintro e w5 ⟨N, rfl, hN, hC5, hB5⟩
  have hMN : M ≠ N := by have := A4.out.lt; omega
  have A5 := Lib.hid (A4.out.below hB5 A4.out.lt)
  have C5 := Lib.hid hC5
  have D5 := Lib.hid (D4.out.trans (hB5.mono D4.out.size))
  have T5 := Lib.hid (T4.out.below T4.out.lt hB5)
  have hNl : w2.heap.size ≤ N := by have := D4.out.size; omega
  have hN2 : 2 ≤ N := by omega
  clear hC5 hB5 A4 D4 T4 hs4 hN
  have htx := fun (W : World) (hT' : Tabs W) (hA' : MacAt W M (ip ++ xs) op) => mtag_any M ks xs (by omega) W hT' (by rw [HIP.out, HOP.out]; exact hA')
  have htxN := fun (W : World) (hT' : Tabs W) (hA' : MacAt W N (ip ++ xs) op) => mtag_any N ks xs (by omega) W hT' (by rw [HIP.out, HOP.out]; exact hA')
  have htz := fun (W : World) (hT' : Tabs W) (hA' : MacAt W M (ip ++ xs ++ ys) op) => mtag_any M ks (xs ++ ys) (by omega) W hT' (by rw [HIP.out, HOP.out, ← List.append_assoc]; exact hA')
  have htzN := fun (W : World) (hT' : Tabs W) (hA' : MacAt W N (ip ++ xs ++ ys) op) => mtag_any N ks (xs ++ ys) (by omega) W hT' (by rw [HIP.out, HOP.out, ← List.append_assoc]; exact hA')
  have hox := fun (W : World) (hT' : Tabs W) (hD : Below w2.heap.size w2 W) => mof_any A ks ca B xs cb la (by omega) lb (by omega) W hT' ((HA.out.below (D2.out.trans (hD.mono hs2))).mono (Nat.le_trans hs2 hD.size)) ((HB.out.below (D2.out.trans (hD.mono hs2))).mono (Nat.le_trans hs2 hD.size))
  have hoz := fun (W : World) (hT' : Tabs W) (hD : Below w2.heap.size w2 W) => mof_any A ks ca a2 (xs ++ ys) c2 la (by omega) hcap (by omega) W hT' ((HA.out.below (D2.out.trans (hD.mono hs2))).mono (Nat.le_trans hs2 hD.size)) ((O2.out.below hD).mono hD.size)
  obtain ⟨T1, hT1⟩ : ∃ T1, tag ks xs = T1 := ⟨_, rfl⟩
  obtain ⟨Z1, hZ1⟩ : ∃ Z1, tag ks (xs ++ ys) = Z1 := ⟨_, rfl⟩
  rw [hT1] at htx htxN hox
  rw [hZ1] at htz htzN hoz
  have HX := Lib.hid htx
  have HXN := Lib.hid htxN
  have HZN := Lib.hid htzN
  have HZ := Lib.hid htz
  have OX := Lib.hid hox
  have OZ := Lib.hid hoz
  clear hT1 hZ1 htx htxN htz htzN hox hoz HIP HOP
  go_wp2_with fail
  refine (HX.out w5 T5.out A5.out).mono ?_
  rintro e w6 ⟨rfl, hB6⟩
  have hs6 := hB6.size
  have B7 : Below w5.heap.size w5 ((w6.alloc (.cells (nums .u8 32 fun _ => 0) 38)).setRow w6.heap.size (nums .u8 32 (bf T1))) := below_row (hB6.alloc hs6 _) hs6 _
  have H6 := Lib.hid (At.new 38 w6 (nums .u8 32 fun _ => 0))
  have G7 := Lib.hid (show At 38 ((w6.alloc (.cells (nums .u8 32 fun _ => 0) 38)).setRow w6.heap.size (nums .u8 32 (bf T1))) w6.heap.size (nums .u8 32 (bf T1)) from H6.out.row)
  have A7 := Lib.hid (A5.out.below B7 A5.out.lt)
  have C7 := Lib.hid (C5.out.below B7 C5.out.lt)
  have T7 := Lib.hid (T5.out.below T5.out.lt B7)
  have D7 := Lib.hid (D5.out.trans (B7.mono D5.out.size))
  have hGM : M ≠ w6.heap.size := by have := A5.out.lt; omega
  have hGN : N ≠ w6.heap.size := by have := C5.out.lt; omega
  clear hB6 B7 A5 C5 T5 D5
  go_wp2_with (refine store_hash H6.out rfl rfl rfl rfl ?_)
  generalize ((w6.alloc (.cells (nums .u8 32 fun _ => 0) 38)).setRow w6.heap.size (nums .u8 32 (bf T1))) = w7 at *
  obtain ⟨G1, hG1⟩ : ∃ G, w6.heap.size = G := ⟨_, rfl⟩
  rw [hG1] at G7 hGM hGN ⊢
  clear hG1 H6 hs6
  refine (mwrite_any M (ip ++ xs) op ys C cc hM2 (by omega) (by rw [List.length_append]; omega) lc w7 T7.out A7.out (fun X hX => ((HC.out.below (D2.out.trans (D7.out.mono hs2))).apart (by omega) hX).mono (by have := D7.out.size; omega)) HC.out.1).mono ?_
  rintro e w8 ⟨rfl, hA8, hG8⟩
  have A8 := Lib.hid hA8
  have C8 := Lib.hid (C7.out.grown hG8 hMN.symm)
  have G8 := Lib.hid (G7.out.grown hG8 hGM.symm)
  have D8 := Lib.hid (D7.out.trans (grown_below hG8 (B := w2.heap.size) hM D7.out.size))
  have T8 := Lib.hid (T7.out.grown hG8 hM2)
  clear hA8 hG8 A7 C7 G7 D7 T7
  go_wp2_with fail
  refine (HZ.out w8 T8.out A8.out).mono ?_
  rintro e w9 ⟨rfl, hB9⟩
  have hs9 := hB9.size
  have B10 : Below w8.heap.size w8 ((w9.alloc (.cells (nums .u8 32 fun _ => 0) 38)).setRow w9.heap.size (nums .u8 32 (bf Z1))) := below_row (hB9.alloc hs9 _) hs9 _
  have H9 := Lib.hid (At.new 38 w9 (nums .u8 32 fun _ => 0))
  have K10 := Lib.hid (show At 38 ((w9.alloc (.cells (nums .u8 32 fun _ => 0) 38)).setRow w9.heap.size (nums .u8 32 (bf Z1))) w9.heap.size (nums .u8 32 (bf Z1)) from H9.out.row)
  have C10 := Lib.hid (C8.out.below B10 C8.out.lt)
  have G10 := Lib.hid (G8.out.below G8.out.lt B10)
  have T10 := Lib.hid (T8.out.below T8.out.lt B10)
  have D10 := Lib.hid (D8.out.trans (B10.mono D8.out.size))
  have hKN : N ≠ w9.heap.size := by have := C8.out.lt; omega
  clear hB9 B10 A8 C8 G8 T8 D8
  go_wp2_with (refine store_hash H9.out rfl rfl rfl rfl ?_)
  generalize ((w9.alloc (.cells (nums .u8 32 fun _ => 0) 38)).setRow w9.heap.size (nums .u8 32 (bf Z1))) = w10 at *
  obtain ⟨G2, hG2⟩ : ∃ G, w9.heap.size = G := ⟨_, rfl⟩
  rw [hG2] at K10 hKN ⊢
  clear hG2 H9 hs9
  refine (HXN.out w10 T10.out C10.out).mono ?_
  rintro e w11 ⟨rfl, hB11⟩
  have hs11 := hB11.size
  have B12 : Below w10.heap.size w10 ((w11.alloc (.cells (nums .u8 32 fun _ => 0) 38)).setRow w11.heap.size (nums .u8 32 (bf T1))) := below_row (hB11.alloc hs11 _) hs11 _
  have H11 := Lib.hid (At.new 38 w11 (nums .u8 32 fun _ => 0))
  have L12 := Lib.hid (show At 38 ((w11.alloc (.cells (nums .u8 32 fun _ => 0) 38)).setRow w11.heap.size (nums .u8 32 (bf T1))) w11.heap.size (nums .u8 32 (bf T1)) from H11.out.row)
  have C12 := Lib.hid (C10.out.below B12 C10.out.lt)
  have G12 := Lib.hid (G10.out.below G10.out.lt B12)
  have K12 := Lib.hid (K10.out.below K10.out.lt B12)
  have T12 := Lib.hid (T10.out.below T10.out.lt B12)
  have D12 := Lib.hid (D10.out.trans (B12.mono D10.out.size))
  have hLN : N ≠ w11.heap.size := by have := C10.out.lt; omega
  clear hB11 B12 C10 G10 K10 T10 D10
  go_wp2_with (refine store_hash H11.out rfl rfl rfl rfl ?_)
  generalize ((w11.alloc (.cells (nums .u8 32 fun _ => 0) 38)).setRow w11.heap.size (nums .u8 32 (bf T1))) = w12 at *
  obtain ⟨G3, hG3⟩ : ∃ G, w11.heap.size = G := ⟨_, rfl⟩
  rw [hG3] at L12 hLN ⊢
  clear hG3 H11 hs11
  refine (mwrite_any N (ip ++ xs) op ys C cc hN2 (by omega) (by rw [List.length_append]; omega) lc w12 T12.out C12.out (fun X hX => ((HC.out.below (D2.out.trans (D12.out.mono hs2))).apart (by omega) hX).mono (by have := D12.out.size; omega)) HC.out.1).mono ?_
  rintro e w13 ⟨rfl, hC13, hG13⟩
  have C13 := Lib.hid hC13
  have S13 := Lib.hid (show SS G1 G2 G3 (bf T1) (bf Z1) w13 from ⟨G12.out.grown hG13 hGN.symm, K12.out.grown hG13 hKN.symm, L12.out.grown hG13 hLN.symm⟩)
  have D13 := Lib.hid (D12.out.trans (grown_below hG13 (B := w2.heap.size) hNl D12.out.size))
  have T13 := Lib.hid (T12.out.grown hG13 hN2)
  clear hC13 hG13 C12 G12 K12 L12 D12 T12
  have RA := Lib.hid (fun X (hX : Below w13.heap.size w13 X) => OX.out X (T13.out.below T13.out.lt hX) (D13.out.trans (hX.mono D13.out.size)))
  have RB := Lib.hid (fun X (hX : Below w13.heap.size w13 X) => OZ.out X (T13.out.below T13.out.lt hX) (D13.out.trans (hX.mono D13.out.size)))
  have RC := Lib.hid (fun X (hX : Below w13.heap.size w13 X) => HZN.out X (T13.out.below T13.out.lt hX) (C13.out.below hX C13.out.lt))
  clear HX HXN HZ HZN OX OZ
  rw [List.length_append] at RB
  go_wp2_with fail
  refine region_mpieces rfl rfl (by kernel_rfl) _ _ _ _ _ _ _ _ _ _ _ _ _ _ _ _ _ _ _ _ _ _ _ _ _ _ _ rfl rfl rfl rfl rfl rfl rfl rfl rfl rfl rfl rfl rfl rfl rfl rfl rfl rfl rfl rfl rfl rfl rfl rfl rfl rfl rfl rfl rfl rfl rfl rfl rfl rfl rfl rfl rfl rfl rfl rfl rfl rfl rfl rfl rfl rfl rfl rfl rfl rfl rfl rfl rfl rfl rfl rfl rfl rfl rfl rfl rfl rfl rfl rfl rfl rfl rfl rfl rfl rfl rfl rfl rfl rfl rfl rfl rfl rfl rfl rfl rfl rfl rfl rfl rfl rfl rfl rfl rfl rfl rfl rfl rfl rfl rfl rfl rfl rfl rfl rfl rfl rfl rfl rfl rfl rfl rfl rfl (by kernel_rfl) (by kernel_rfl) (by kernel_rfl) (by kernel_rfl) (by kernel_rfl) (by kernel_rfl) (by kernel_rfl) (by kernel_rfl) (by kernel_rfl) (by kernel_rfl) (by kernel_rfl) (by kernel_rfl) (by kernel_rfl) (by kernel_rfl) (by kernel_rfl) (by kernel_rfl) (by kernel_rfl) (by kernel_rfl) (by kernel_rfl) (by kernel_rfl) (by kernel_rfl) (by kernel_rfl) (by kernel_rfl) (by kernel_rfl) (by kernel_rfl) (by kernel_rfl) (by kernel_rfl) (by kernel_rfl) (by kernel_rfl) (by kernel_rfl) (by kernel_rfl) (by kernel_rfl) (by kernel_rfl) (by kernel_rfl) (by kernel_rfl) (by kernel_rfl) (by kernel_rfl) (by kernel_rfl) (by kernel_rfl) (by kernel_rfl) (by kernel_rfl) (by kernel_rfl) (by kernel_rfl) (by kernel_rfl) (by kernel_rfl) (by kernel_rfl) (by kernel_rfl) (by kernel_rfl) (by kernel_rfl) (by kernel_rfl) (by kernel_rfl) (by kernel_rfl) _ rfl G1 G2 G3 (bf T1) (bf Z1) A B a2 ks.length ca xs.length cb (xs.length + ys.length) c2 N w13 S13.out RA.out RB.out RC.out rfl rfl rfl rfl rfl rfl rfl rfl ?_
  intro X hX
  have DX := Lib.hid (D2.out.trans ((D13.out.trans (hX.mono D13.out.size)).mono hs2))
  clear hX RA RB RC S13 D13 T13 C13
  simp only [Act.put, List.setIfInBounds_toArray, List.set_cons_zero, List.set_cons_succ]
  go_wp2
  go_ret
  exact ⟨rfl, DX.out⟩
theorem pieces_far (A : Option Addr) (la ca : Nat) (B : Option Addr) (lb cb : Nat) (C : Option Addr) (lc cc : Nat) (w : World) (hT : Tabs w) (h : ¬ (la ≤ 300 ∧ lb ≤ 500 ∧ lc ≤ 500)) :
    Calls Tryd.prog 6 #[.slice A la ca, .slice B lb cb, .slice C lc cc] w fun e w' => e = .returned (.bool true) ∧ Below w.heap.size w w' := by
  have hal := alive_any w hT
  clear hT
  have hor : (300 < la) ∨ (la ≤ 300 ∧ 500 < lb) ∨ (la ≤ 300 ∧ lb ≤ 500 ∧ 500 < lc) := by omega
  clear h
  rcases hor with h1 | ⟨h1, h2⟩ | ⟨h1, h2, h3⟩
  all_goals (
    go_enter Tryd.func6, Tryd.ntmps6
    go_wp2_with fail
    refine hal.mono ?_
    rintro e w1 ⟨rfl, hB1⟩
    go_wp2
    go_ret
    exact ⟨rfl, hB1⟩)
theorem pieces_any (a : Option Addr) (la ca : Nat) (za : List Int) (b : Option Addr) (lb cb : Nat) (zb : List Int) (c : Option Addr) (lc cc : Nat) (zc : List Int) (w : World) (hT : Tabs w) (ha : IsRow .u8 w a la ca za) (hb : IsRow .u8 w b lb cb zb) (hc : IsRow .u8 w c lc cc zc) :
    Calls Tryd.prog 6 #[.slice a la ca, .slice b lb cb, .slice c lc cc] w fun e w' => e = .returned (.bool true) ∧ Below w.heap.size w w' := by
  by_cases h : la ≤ 300 ∧ lb ≤ 500 ∧ lc ≤ 500
  · obtain ⟨xs, rfl, hI⟩ := bys8_of_row ha
    obtain ⟨ys, rfl, hJ⟩ := bys8_of_row hb
    obtain ⟨zs, rfl, hK⟩ := bys8_of_row hc
    exact pieces_yes a xs ca b ys cb c zs cc h.1 h.2.1 h.2.2 (row_le ha) (row_le hb) (row_le hc) w hT hI hJ hK
  · exact pieces_far a la ca b lb cb c lc cc w hT h
end Go.Proofs.YtkhhejkemkldgaaDoor
