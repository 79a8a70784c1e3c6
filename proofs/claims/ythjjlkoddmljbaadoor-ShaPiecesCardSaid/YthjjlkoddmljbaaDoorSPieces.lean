/- The walk of the statement ShaPieces. -/
import Derived.Test.YthjjlkoddmljbaaDoorSReg
set_option linter.unusedVariables false
set_option linter.unusedSimpArgs false
namespace Go.Proofs.YthjjlkoddmljbaaDoor
open Go.RowKit Go.Shelf
theorem slice_from2 (A : Option Addr) (len cap k : Nat) (hk : k ≤ len) (hcp : len ≤ cap) : ∃ A' c', (∀ w, (Instr.slice 33 (.slice A len cap) (some (.int .i64 (k : Int))) none none).run Tryd.prog w = .ok (.slice A' (len - k) c') w) ∧
    (∀ B W xs, Bys8 B W (.slice A len cap) xs → Bys8 B W (.slice A' (len - k) c') (xs.drop k)) ∧ len - k ≤ c' := by
  obtain ⟨A', c', h1, _, h3⟩ := slice_from A len cap k hk hcp
  refine ⟨A', c', h1, h3, ?_⟩
  have h2 : (Instr.slice 33 (.slice A len cap) (some (.int .i64 (k : Int))) none none).run Tryd.prog default = .ok (.slice (if cap = k then A else A.map (·.add k)) (len - k) (cap - k)) default := by
    rw [run_slice_l default 33 A len cap (by kernel_rfl) .i64 (k : Int) (by omega) (by omega), show Tryd.prog.elem 33 = 5 by kernel_rfl, sizeOf_u8]
    simp only [Result.andThen, sliced, Int.toNat_natCast, Nat.mul_one]
  have h4 := (h1 default).symm.trans h2
  simp only [Result.ok.injEq, Value.slice.injEq] at h4
  omega
theorem Below.draw1 {W X : World} (h : Below W.drew.heap.size W.drew X) : Below W.heap.size W X := ((Below.refl W.heap.size W).drew).trans h
set_option maxHeartbeats 1000000 in
theorem region_pieces_yes {id : Nat} {Q : Exit → Act → World → Prop} {L0 : List Oper} {ops : Array Oper} (hops : L0.toArray = ops) (hlen : ops.size = 19) (hsel : Region.noSelect ops = true) (o0 o1 o2 o3 o4 o5 o6 o7 o8 o9 o10 o11 o12 o13 o14 o15 o16 o17 o18 : Oper)
    (p0 : ops[0]? = some o0) (e0 : o0.op = .move (.tmp 1)) (d0 : o0.dst = some 54) (g0 : o0.guard = none)
    (p1 : ops[1]? = some o1) (e1 : o1.op = .move (.tmp 8)) (d1 : o1.dst = some 55) (g1 : o1.guard = none)
    (p2 : ops[2]? = some o2) (e2 : o2.op = .indexAddr 33 (.tmp 54) (.tmp 55)) (d2 : o2.dst = some 56) (g2 : o2.guard = none)
    (p3 : ops[3]? = some o3) (e3 : o3.op = .load 5 (.tmp 56)) (d3 : o3.dst = some 57) (g3 : o3.guard = none)
    (p4 : ops[4]? = some o4) (e4 : o4.op = .binOp .rem 5 (.tmp 57) (.const (.int .u8 4)) 5) (d4 : o4.dst = some 58) (g4 : o4.guard = none)
    (p5 : ops[5]? = some o5) (e5 : o5.op = .binOp .eql 5 (.tmp 58) (.const (.int .u8 0)) 5) (d5 : o5.dst = some 59) (g5 : o5.guard = none)
    (p6 : ops[6]? = some o6) (e6 : o6.op = .move (.tmp 59)) (d6 : o6.dst = some 60) (g6 : o6.guard = none)
    (p7 : ops[7]? = some o7) (e7 : o7.op = .move (.tmp 6)) (d7 : o7.dst = some 61) (g7 : o7.guard = some (6, true))
    (p8 : ops[8]? = some o8) (e8 : o8.op = .call { callee := .value (.func 11), args := #[.tmp 61], argTypes := #[24] }) (d8 : o8.dst = some 62) (g8 : o8.guard = some (6, true))
    (p9 : ops[9]? = some o9) (e9 : o9.op = .move (.tmp 0)) (d9 : o9.dst = some 63) (g9 : o9.guard = some (6, true))
    (p10 : ops[10]? = some o10) (e10 : o10.op = .move (.tmp 0)) (d10 : o10.dst = some 64) (g10 : o10.guard = some (6, true))
    (p11 : ops[11]? = some o11) (e11 : o11.op = .call { callee := .builtin .len, args := #[.tmp 64], argTypes := #[33] }) (d11 : o11.dst = some 65) (g11 : o11.guard = some (6, true))
    (p12 : ops[12]? = some o12) (e12 : o12.op = .move (.tmp 7)) (d12 : o12.dst = some 66) (g12 : o12.guard = some (6, true))
    (p13 : ops[13]? = some o13) (e13 : o13.op = .call { callee := .builtin .len, args := #[.tmp 66], argTypes := #[33] }) (d13 : o13.dst = some 67) (g13 : o13.guard = some (6, true))
    (p14 : ops[14]? = some o14) (e14 : o14.op = .binOp .sub 3 (.tmp 65) (.tmp 67) 3) (d14 : o14.dst = some 68) (g14 : o14.guard = some (6, true))
    (p15 : ops[15]? = some o15) (e15 : o15.op = .slice 33 (.tmp 63) none (some (.tmp 68)) none) (d15 : o15.dst = some 69) (g15 : o15.guard = some (6, true))
    (p16 : ops[16]? = some o16) (e16 : o16.op = .call { callee := .value (.func 15), args := #[.tmp 69], argTypes := #[33] }) (d16 : o16.dst = some 70) (g16 : o16.guard = some (6, true))
    (p17 : ops[17]? = some o17) (e17 : o17.op = .binOp .neq 38 (.tmp 62) (.tmp 70) 38) (d17 : o17.dst = some 71) (g17 : o17.guard = some (6, true))
    (p18 : ops[18]? = some o18) (e18 : o18.op = .pick (.tmp 60) (.tmp 71) (.const (.bool false))) (d18 : o18.dst = some 72) (g18 : o18.guard = none)
    (f0 : Region.free .any ops (LR 19 []) 0 = true) (c0 : (Region.ready .any ops (LR 19 [])).contains 0 = true)
    (f1 : Region.free .any ops (LR 19 [0]) 1 = true) (c1 : (Region.ready .any ops (LR 19 [0])).contains 1 = true)
    (f2 : Region.free .any ops (LR 19 [0, 1]) 2 = true) (c2 : (Region.ready .any ops (LR 19 [0, 1])).contains 2 = true)
    (r3 : Region.ready .any ops (LR 19 [0, 1, 2]) = [3])
    (f4 : Region.free .any ops (LR 19 [0, 1, 2, 3]) 4 = true) (c4 : (Region.ready .any ops (LR 19 [0, 1, 2, 3])).contains 4 = true)
    (f5 : Region.free .any ops (LR 19 [0, 1, 2, 3, 4]) 5 = true) (c5 : (Region.ready .any ops (LR 19 [0, 1, 2, 3, 4])).contains 5 = true)
    (f6 : Region.free .any ops (LR 19 [0, 1, 2, 3, 4, 5]) 6 = true) (c6 : (Region.ready .any ops (LR 19 [0, 1, 2, 3, 4, 5])).contains 6 = true)
    (f7 : Region.free .any ops (LR 19 [0, 1, 2, 3, 4, 5, 6]) 7 = true) (c7 : (Region.ready .any ops (LR 19 [0, 1, 2, 3, 4, 5, 6])).contains 7 = true)
    (f9 : Region.free .any ops (LR 19 [0, 1, 2, 3, 4, 5, 6, 7]) 9 = true) (c9 : (Region.ready .any ops (LR 19 [0, 1, 2, 3, 4, 5, 6, 7])).contains 9 = true)
    (f10 : Region.free .any ops (LR 19 [0, 1, 2, 3, 4, 5, 6, 7, 9]) 10 = true) (c10 : (Region.ready .any ops (LR 19 [0, 1, 2, 3, 4, 5, 6, 7, 9])).contains 10 = true)
    (f11 : Region.free .any ops (LR 19 [0, 1, 2, 3, 4, 5, 6, 7, 9, 10]) 11 = true) (c11 : (Region.ready .any ops (LR 19 [0, 1, 2, 3, 4, 5, 6, 7, 9, 10])).contains 11 = true)
    (f12 : Region.free .any ops (LR 19 [0, 1, 2, 3, 4, 5, 6, 7, 9, 10, 11]) 12 = true) (c12 : (Region.ready .any ops (LR 19 [0, 1, 2, 3, 4, 5, 6, 7, 9, 10, 11])).contains 12 = true)
    (f13 : Region.free .any ops (LR 19 [0, 1, 2, 3, 4, 5, 6, 7, 9, 10, 11, 12]) 13 = true) (c13 : (Region.ready .any ops (LR 19 [0, 1, 2, 3, 4, 5, 6, 7, 9, 10, 11, 12])).contains 13 = true)
    (f14 : Region.free .any ops (LR 19 [0, 1, 2, 3, 4, 5, 6, 7, 9, 10, 11, 12, 13]) 14 = true) (c14 : (Region.ready .any ops (LR 19 [0, 1, 2, 3, 4, 5, 6, 7, 9, 10, 11, 12, 13])).contains 14 = true)
    (f15 : Region.free .any ops (LR 19 [0, 1, 2, 3, 4, 5, 6, 7, 9, 10, 11, 12, 13, 14]) 15 = true) (c15 : (Region.ready .any ops (LR 19 [0, 1, 2, 3, 4, 5, 6, 7, 9, 10, 11, 12, 13, 14])).contains 15 = true)
    (r8 : Region.ready .any ops (LR 19 [0, 1, 2, 3, 4, 5, 6, 7, 9, 10, 11, 12, 13, 14, 15]) = [8])
    (r16 : Region.ready .any ops (LR 19 [0, 1, 2, 3, 4, 5, 6, 7, 8, 9, 10, 11, 12, 13, 14, 15]) = [16])
    (f17 : Region.free .any ops (LR 19 [0, 1, 2, 3, 4, 5, 6, 7, 8, 9, 10, 11, 12, 13, 14, 15, 16]) 17 = true) (c17 : (Region.ready .any ops (LR 19 [0, 1, 2, 3, 4, 5, 6, 7, 8, 9, 10, 11, 12, 13, 14, 15, 16])).contains 17 = true)
    (f18 : Region.free .any ops (LR 19 [0, 1, 2, 3, 4, 5, 6, 7, 8, 9, 10, 11, 12, 13, 14, 15, 16, 17]) 18 = true) (c18 : (Region.ready .any ops (LR 19 [0, 1, 2, 3, 4, 5, 6, 7, 8, 9, 10, 11, 12, 13, 14, 15, 16, 17])).contains 18 = true)
    (rN : Region.ready .any ops (LR 19 [0, 1, 2, 3, 4, 5, 6, 7, 8, 9, 10, 11, 12, 13, 14, 15, 16, 17, 18]) = [])
    (a : Act) (ha : a.tmps.size = 92) (W : World) (hT : Tabs W) (b off lb cb k : Nat) (c : Int) (hk : k < lb) (hc0 : 0 ≤ c) (hc : (c % 4 == 0) = true) (hld : W.cell? ⟨b, off + k, none⟩ = some (.int .u8 c)) (ha1 : a.eval (.tmp 1) = .slice (some ⟨b, off, none⟩) lb cb) (ha8 : a.eval (.tmp 8) = .int .i64 (k : Nat)) (S : Nat) (ys : List Int) (hr : ys.length ≤ 100000000000) (hS0 : ShaAt W S ys) (A A' : Option Addr) (L ca r c' : Nat) (hcap : ys.length ≤ ca) (hsub : IntKind.i64.wrap ((L : Int) - (r : Int)) = (ys.length : Int)) (hb : ∀ X, Below W.heap.size W X → Bys8 X.heap.size X (.slice A ys.length ca) ys) (ha0 : a.eval (.tmp 0) = .slice A L ca) (ha6 : a.eval (.tmp 6) = .pointer (some ⟨S, 0, none⟩)) (ha7 : a.eval (.tmp 7) = .slice A' r c')
    (fin : ∀ X, Below W.heap.size W X → Q .normal ((((((((((((((((((((a.put (some 54) (.slice (some ⟨b, off, none⟩) lb cb)).put (some 55) (.int .i64 (k : Nat))).put (some 56) (.pointer (some ⟨b, off + k, none⟩))).put (some 57) (.int .u8 c)).put (some 58) (.int .u8 (c % 4))).put (some 59) (.bool true)).put (some 60) (.bool true)).put (some 61) (.pointer (some ⟨S, 0, none⟩))).put (some 63) (.slice A L ca)).put (some 64) (.slice A L ca)).put (some 65) (.int .i64 (L : Nat))).put (some 66) (.slice A' r c')).put (some 67) (.int .i64 (r : Nat))).put (some 68) (.int .i64 (ys.length : Nat))).put (some 69) (.slice A ys.length ca)).put (some 62) (.agg (nums .u8 32 (bf (sha ys))))).put (some 70) (.agg (nums .u8 32 (bf (sha ys))))).put (some 71) (.bool false)).put (some 72) (.bool false))) X) :
    (Code.region id L0.toArray true).wp Tryd.prog Q a W := by
  subst hops
  refine wp_mono (Q := plainQ Q) (wp_region_held (S := fun _ => True) (by kernel_rfl) ?_) (fun e a w h => by obtain ⟨rfl, h⟩ := h; exact h)
  change wpAnyH _ _ _ _ _ L0.toArray.size _ _ W.drew
  rw [hlen]
  rw [show Array.replicate 19 false = LR 19 [] from by decide]
  refine heldS_take (i := 0) (v := .slice (some ⟨b, off, none⟩) lb cb) p0 hsel f0 c0 (wanted_none g0) (fun X hX => exec_move e0 (by simp [eval_putT, size_putT, ha, ha1, ha8, ha0, ha6, ha7])) trivial ?_
  rw [show (LR 19 []).setIfInBounds 0 true = (LR 19 [0]) from by decide]
  rw [d0]
  refine heldS_take (i := 1) (v := .int .i64 (k : Nat)) p1 hsel f1 c1 (wanted_none g1) (fun X hX => exec_move e1 (by simp [eval_putT, size_putT, ha, ha1, ha8, ha0, ha6, ha7])) trivial ?_
  rw [show (LR 19 [0]).setIfInBounds 1 true = (LR 19 [0, 1]) from by decide]
  rw [d1]
  refine heldS_take (i := 2) (v := .pointer (some ⟨b, off + k, none⟩)) p2 hsel f2 c2 (wanted_none g2) (fun X hX => exec_idx8 (lb := lb) (cb := cb) hk e2 (by simp [eval_putT, size_putT, ha, ha1, ha8, ha0, ha6, ha7]) (by simp [eval_putT, size_putT, ha, ha1, ha8, ha0, ha6, ha7])) trivial ?_
  rw [show (LR 19 [0, 1]).setIfInBounds 2 true = (LR 19 [0, 1, 2]) from by decide]
  rw [d2]
  refine heldS_one p3 r3 (wanted_none g3) ?_
  refine wp_of_runT (w' := W.drew) (v := .int .u8 c) (exec_load8 e3 (by simp [eval_putT, size_putT, ha, ha1, ha8, ha0, ha6, ha7]) hld) ⟨trivial, ?_⟩
  rw [show (LR 19 [0, 1, 2]).setIfInBounds 3 true = (LR 19 [0, 1, 2, 3]) from by decide]
  rw [d3]
  refine heldS_take (i := 4) (v := .int .u8 (c % 4)) p4 hsel f4 c4 (wanted_none g4) (fun X hX => exec_rem4 hc0 e4 (by simp [eval_putT, size_putT, ha, ha1, ha8, ha0, ha6, ha7])) trivial ?_
  rw [show (LR 19 [0, 1, 2, 3]).setIfInBounds 4 true = (LR 19 [0, 1, 2, 3, 4]) from by decide]
  rw [d4]
  refine heldS_take (i := 5) (v := .bool true) p5 hsel f5 c5 (wanted_none g5) (fun X hX => exec_eqlnum (n := c % 4) (m := 0) Tryd.underlying5 e5 (by simp [eval_putT, size_putT, ha, ha1, ha8, ha0, ha6, ha7]) rfl hc) trivial ?_
  rw [show (LR 19 [0, 1, 2, 3, 4]).setIfInBounds 5 true = (LR 19 [0, 1, 2, 3, 4, 5]) from by decide]
  rw [d5]
  refine heldS_take (i := 6) (v := .bool true) p6 hsel f6 c6 (wanted_none g6) (fun X hX => exec_move e6 (by simp [eval_putT, size_putT, ha, ha1, ha8, ha0, ha6, ha7])) trivial ?_
  rw [show (LR 19 [0, 1, 2, 3, 4, 5]).setIfInBounds 6 true = (LR 19 [0, 1, 2, 3, 4, 5, 6]) from by decide]
  rw [d6]
  refine heldS_take (i := 7) (v := .pointer (some ⟨S, 0, none⟩)) p7 hsel f7 c7 (wanted_some g7 p6 d6 (by simp [size_putT, ha]) (by simp [eval_putT, size_putT, ha, ha1, ha8, ha0, ha6, ha7])) (fun X hX => exec_move e7 (by simp [eval_putT, size_putT, ha, ha1, ha8, ha0, ha6, ha7])) trivial ?_
  rw [show (LR 19 [0, 1, 2, 3, 4, 5, 6]).setIfInBounds 7 true = (LR 19 [0, 1, 2, 3, 4, 5, 6, 7]) from by decide]
  rw [d7]
  refine heldS_take (i := 9) (v := .slice A L ca) p9 hsel f9 c9 (wanted_some g9 p6 d6 (by simp [size_putT, ha]) (by simp [eval_putT, size_putT, ha, ha1, ha8, ha0, ha6, ha7])) (fun X hX => exec_move e9 (by simp [eval_putT, size_putT, ha, ha1, ha8, ha0, ha6, ha7])) trivial ?_
  rw [show (LR 19 [0, 1, 2, 3, 4, 5, 6, 7]).setIfInBounds 9 true = (LR 19 [0, 1, 2, 3, 4, 5, 6, 7, 9]) from by decide]
  rw [d9]
  refine heldS_take (i := 10) (v := .slice A L ca) p10 hsel f10 c10 (wanted_some g10 p6 d6 (by simp [size_putT, ha]) (by simp [eval_putT, size_putT, ha, ha1, ha8, ha0, ha6, ha7])) (fun X hX => exec_move e10 (by simp [eval_putT, size_putT, ha, ha1, ha8, ha0, ha6, ha7])) trivial ?_
  rw [show (LR 19 [0, 1, 2, 3, 4, 5, 6, 7, 9]).setIfInBounds 10 true = (LR 19 [0, 1, 2, 3, 4, 5, 6, 7, 9, 10]) from by decide]
  rw [d10]
  refine heldS_take (i := 11) (v := .int .i64 (L : Nat)) p11 hsel f11 c11 (wanted_some g11 p6 d6 (by simp [size_putT, ha]) (by simp [eval_putT, size_putT, ha, ha1, ha8, ha0, ha6, ha7])) (fun X hX => exec_len8 (A := A) (L := L) (c := ca) e11 (by simp [eval_putT, size_putT, ha, ha1, ha8, ha0, ha6, ha7])) trivial ?_
  rw [show (LR 19 [0, 1, 2, 3, 4, 5, 6, 7, 9, 10]).setIfInBounds 11 true = (LR 19 [0, 1, 2, 3, 4, 5, 6, 7, 9, 10, 11]) from by decide]
  rw [d11]
  refine heldS_take (i := 12) (v := .slice A' r c') p12 hsel f12 c12 (wanted_some g12 p6 d6 (by simp [size_putT, ha]) (by simp [eval_putT, size_putT, ha, ha1, ha8, ha0, ha6, ha7])) (fun X hX => exec_move e12 (by simp [eval_putT, size_putT, ha, ha1, ha8, ha0, ha6, ha7])) trivial ?_
  rw [show (LR 19 [0, 1, 2, 3, 4, 5, 6, 7, 9, 10, 11]).setIfInBounds 12 true = (LR 19 [0, 1, 2, 3, 4, 5, 6, 7, 9, 10, 11, 12]) from by decide]
  rw [d12]
  refine heldS_take (i := 13) (v := .int .i64 (r : Nat)) p13 hsel f13 c13 (wanted_some g13 p6 d6 (by simp [size_putT, ha]) (by simp [eval_putT, size_putT, ha, ha1, ha8, ha0, ha6, ha7])) (fun X hX => exec_len8 (A := A') (L := r) (c := c') e13 (by simp [eval_putT, size_putT, ha, ha1, ha8, ha0, ha6, ha7])) trivial ?_
  rw [show (LR 19 [0, 1, 2, 3, 4, 5, 6, 7, 9, 10, 11, 12]).setIfInBounds 13 true = (LR 19 [0, 1, 2, 3, 4, 5, 6, 7, 9, 10, 11, 12, 13]) from by decide]
  rw [d13]
  refine heldS_take (i := 14) (v := .int .i64 (ys.length : Nat)) p14 hsel f14 c14 (wanted_some g14 p6 d6 (by simp [size_putT, ha]) (by simp [eval_putT, size_putT, ha, ha1, ha8, ha0, ha6, ha7])) (fun X hX => exec_sub (n := (L : Int)) (m := (r : Int)) hsub e14 (by simp [eval_putT, size_putT, ha, ha1, ha8, ha0, ha6, ha7]) (by simp [eval_putT, size_putT, ha, ha1, ha8, ha0, ha6, ha7])) trivial ?_
  rw [show (LR 19 [0, 1, 2, 3, 4, 5, 6, 7, 9, 10, 11, 12, 13]).setIfInBounds 14 true = (LR 19 [0, 1, 2, 3, 4, 5, 6, 7, 9, 10, 11, 12, 13, 14]) from by decide]
  rw [d14]
  refine heldS_take (i := 15) (v := .slice A ys.length ca) p15 hsel f15 c15 (wanted_some g15 p6 d6 (by simp [size_putT, ha]) (by simp [eval_putT, size_putT, ha, ha1, ha8, ha0, ha6, ha7])) (fun X hX => exec_sliceh (L := L) hcap e15 (by simp [eval_putT, size_putT, ha, ha1, ha8, ha0, ha6, ha7]) (by simp [eval_putT, size_putT, ha, ha1, ha8, ha0, ha6, ha7])) trivial ?_
  rw [show (LR 19 [0, 1, 2, 3, 4, 5, 6, 7, 9, 10, 11, 12, 13, 14]).setIfInBounds 15 true = (LR 19 [0, 1, 2, 3, 4, 5, 6, 7, 9, 10, 11, 12, 13, 14, 15]) from by decide]
  rw [d15]
  refine heldS_one p8 r8 (wanted_some g8 p6 d6 (by simp [size_putT, ha]) (by simp [eval_putT, size_putT, ha, ha1, ha8, ha0, ha6, ha7])) ?_
  refine wp_call e8 (by simp [eval_putT, size_putT, ha, ha1, ha8, ha0, ha6, ha7]) (enters_of Tryd.func11 (by kernel_rfl) rfl) (sum_any S ys hr W.drew hT.drew hS0) ?_
  intro X1 q1
  refine ⟨trivial, ?_⟩
  rw [show (LR 19 [0, 1, 2, 3, 4, 5, 6, 7, 9, 10, 11, 12, 13, 14, 15]).setIfInBounds 8 true = (LR 19 [0, 1, 2, 3, 4, 5, 6, 7, 8, 9, 10, 11, 12, 13, 14, 15]) from by decide]
  rw [d8]
  refine heldS_one p16 r16 (wanted_some g16 p6 d6 (by simp [size_putT, ha]) (by simp [eval_putT, size_putT, ha, ha1, ha8, ha0, ha6, ha7])) ?_
  refine wp_call e16 (by simp [eval_putT, size_putT, ha, ha1, ha8, ha0, ha6, ha7]) (enters_of Tryd.func15 (by kernel_rfl) rfl) (of_any A ys ca hr hcap X1 (hT.below hT.lt (Below.draw1 q1)) (hb _ (Below.draw1 q1))) ?_
  intro X2 q2
  refine ⟨trivial, ?_⟩
  rw [show (LR 19 [0, 1, 2, 3, 4, 5, 6, 7, 8, 9, 10, 11, 12, 13, 14, 15]).setIfInBounds 16 true = (LR 19 [0, 1, 2, 3, 4, 5, 6, 7, 8, 9, 10, 11, 12, 13, 14, 15, 16]) from by decide]
  rw [d16]
  refine heldS_take (i := 17) (v := .bool false) p17 hsel f17 c17 (wanted_some g17 p6 d6 (by simp [size_putT, ha]) (by simp [eval_putT, size_putT, ha, ha1, ha8, ha0, ha6, ha7])) (fun X hX => exec_neqhash (f := bf (sha ys)) e17 (by simp [eval_putT, size_putT, ha, ha1, ha8, ha0, ha6, ha7]) (by simp [eval_putT, size_putT, ha, ha1, ha8, ha0, ha6, ha7])) trivial ?_
  rw [show (LR 19 [0, 1, 2, 3, 4, 5, 6, 7, 8, 9, 10, 11, 12, 13, 14, 15, 16]).setIfInBounds 17 true = (LR 19 [0, 1, 2, 3, 4, 5, 6, 7, 8, 9, 10, 11, 12, 13, 14, 15, 16, 17]) from by decide]
  rw [d17]
  refine heldS_take (i := 18) (v := .bool false) p18 hsel f18 c18 (wanted_none g18) (fun X hX => exec_pick (b := true) (v := .bool false) e18 (by simp [eval_putT, size_putT, ha, ha1, ha8, ha0, ha6, ha7]) (by simp [eval_putT, size_putT, ha, ha1, ha8, ha0, ha6, ha7]) rfl) trivial ?_
  rw [show (LR 19 [0, 1, 2, 3, 4, 5, 6, 7, 8, 9, 10, 11, 12, 13, 14, 15, 16, 17]).setIfInBounds 18 true = (LR 19 [0, 1, 2, 3, 4, 5, 6, 7, 8, 9, 10, 11, 12, 13, 14, 15, 16, 17, 18]) from by decide]
  rw [d18]
  exact wpAnyH_done rN ⟨rfl, fin X2 ((Below.draw1 q1).trans (q2.mono q1.size))⟩ _
set_option maxHeartbeats 1000000 in
theorem region_pieces_no {id : Nat} {Q : Exit → Act → World → Prop} {L0 : List Oper} {ops : Array Oper} (hops : L0.toArray = ops) (hlen : ops.size = 19) (hsel : Region.noSelect ops = true) (o0 o1 o2 o3 o4 o5 o6 o7 o8 o9 o10 o11 o12 o13 o14 o15 o16 o17 o18 : Oper)
    (p0 : ops[0]? = some o0) (e0 : o0.op = .move (.tmp 1)) (d0 : o0.dst = some 54) (g0 : o0.guard = none)
    (p1 : ops[1]? = some o1) (e1 : o1.op = .move (.tmp 8)) (d1 : o1.dst = some 55) (g1 : o1.guard = none)
    (p2 : ops[2]? = some o2) (e2 : o2.op = .indexAddr 33 (.tmp 54) (.tmp 55)) (d2 : o2.dst = some 56) (g2 : o2.guard = none)
    (p3 : ops[3]? = some o3) (e3 : o3.op = .load 5 (.tmp 56)) (d3 : o3.dst = some 57) (g3 : o3.guard = none)
    (p4 : ops[4]? = some o4) (e4 : o4.op = .binOp .rem 5 (.tmp 57) (.const (.int .u8 4)) 5) (d4 : o4.dst = some 58) (g4 : o4.guard = none)
    (p5 : ops[5]? = some o5) (e5 : o5.op = .binOp .eql 5 (.tmp 58) (.const (.int .u8 0)) 5) (d5 : o5.dst = some 59) (g5 : o5.guard = none)
    (p6 : ops[6]? = some o6) (e6 : o6.op = .move (.tmp 59)) (d6 : o6.dst = some 60) (g6 : o6.guard = none)
    (p7 : ops[7]? = some o7) (e7 : o7.op = .move (.tmp 6)) (d7 : o7.dst = some 61) (g7 : o7.guard = some (6, true))
    (p8 : ops[8]? = some o8) (e8 : o8.op = .call { callee := .value (.func 11), args := #[.tmp 61], argTypes := #[24] }) (d8 : o8.dst = some 62) (g8 : o8.guard = some (6, true))
    (p9 : ops[9]? = some o9) (e9 : o9.op = .move (.tmp 0)) (d9 : o9.dst = some 63) (g9 : o9.guard = some (6, true))
    (p10 : ops[10]? = some o10) (e10 : o10.op = .move (.tmp 0)) (d10 : o10.dst = some 64) (g10 : o10.guard = some (6, true))
    (p11 : ops[11]? = some o11) (e11 : o11.op = .call { callee := .builtin .len, args := #[.tmp 64], argTypes := #[33] }) (d11 : o11.dst = some 65) (g11 : o11.guard = some (6, true))
    (p12 : ops[12]? = some o12) (e12 : o12.op = .move (.tmp 7)) (d12 : o12.dst = some 66) (g12 : o12.guard = some (6, true))
    (p13 : ops[13]? = some o13) (e13 : o13.op = .call { callee := .builtin .len, args := #[.tmp 66], argTypes := #[33] }) (d13 : o13.dst = some 67) (g13 : o13.guard = some (6, true))
    (p14 : ops[14]? = some o14) (e14 : o14.op = .binOp .sub 3 (.tmp 65) (.tmp 67) 3) (d14 : o14.dst = some 68) (g14 : o14.guard = some (6, true))
    (p15 : ops[15]? = some o15) (e15 : o15.op = .slice 33 (.tmp 63) none (some (.tmp 68)) none) (d15 : o15.dst = some 69) (g15 : o15.guard = some (6, true))
    (p16 : ops[16]? = some o16) (e16 : o16.op = .call { callee := .value (.func 15), args := #[.tmp 69], argTypes := #[33] }) (d16 : o16.dst = some 70) (g16 : o16.guard = some (6, true))
    (p17 : ops[17]? = some o17) (e17 : o17.op = .binOp .neq 38 (.tmp 62) (.tmp 70) 38) (d17 : o17.dst = some 71) (g17 : o17.guard = some (6, true))
    (p18 : ops[18]? = some o18) (e18 : o18.op = .pick (.tmp 60) (.tmp 71) (.const (.bool false))) (d18 : o18.dst = some 72) (g18 : o18.guard = none)
    (f0 : Region.free .any ops (LR 19 []) 0 = true) (c0 : (Region.ready .any ops (LR 19 [])).contains 0 = true)
    (f1 : Region.free .any ops (LR 19 [0]) 1 = true) (c1 : (Region.ready .any ops (LR 19 [0])).contains 1 = true)
    (f2 : Region.free .any ops (LR 19 [0, 1]) 2 = true) (c2 : (Region.ready .any ops (LR 19 [0, 1])).contains 2 = true)
    (r3 : Region.ready .any ops (LR 19 [0, 1, 2]) = [3])
    (f4 : Region.free .any ops (LR 19 [0, 1, 2, 3]) 4 = true) (c4 : (Region.ready .any ops (LR 19 [0, 1, 2, 3])).contains 4 = true)
    (f5 : Region.free .any ops (LR 19 [0, 1, 2, 3, 4]) 5 = true) (c5 : (Region.ready .any ops (LR 19 [0, 1, 2, 3, 4])).contains 5 = true)
    (f6 : Region.free .any ops (LR 19 [0, 1, 2, 3, 4, 5]) 6 = true) (c6 : (Region.ready .any ops (LR 19 [0, 1, 2, 3, 4, 5])).contains 6 = true)
    (f7 : Region.free .any ops (LR 19 [0, 1, 2, 3, 4, 5, 6]) 7 = true) (c7 : (Region.ready .any ops (LR 19 [0, 1, 2, 3, 4, 5, 6])).contains 7 = true)
    (f8 : Region.free .any ops (LR 19 [0, 1, 2, 3, 4, 5, 6, 7]) 8 = true) (c8 : (Region.ready .any ops (LR 19 [0, 1, 2, 3, 4, 5, 6, 7])).contains 8 = true)
    (f9 : Region.free .any ops (LR 19 [0, 1, 2, 3, 4, 5, 6, 7, 8]) 9 = true) (c9 : (Region.ready .any ops (LR 19 [0, 1, 2, 3, 4, 5, 6, 7, 8])).contains 9 = true)
    (f10 : Region.free .any ops (LR 19 [0, 1, 2, 3, 4, 5, 6, 7, 8, 9]) 10 = true) (c10 : (Region.ready .any ops (LR 19 [0, 1, 2, 3, 4, 5, 6, 7, 8, 9])).contains 10 = true)
    (f11 : Region.free .any ops (LR 19 [0, 1, 2, 3, 4, 5, 6, 7, 8, 9, 10]) 11 = true) (c11 : (Region.ready .any ops (LR 19 [0, 1, 2, 3, 4, 5, 6, 7, 8, 9, 10])).contains 11 = true)
    (f12 : Region.free .any ops (LR 19 [0, 1, 2, 3, 4, 5, 6, 7, 8, 9, 10, 11]) 12 = true) (c12 : (Region.ready .any ops (LR 19 [0, 1, 2, 3, 4, 5, 6, 7, 8, 9, 10, 11])).contains 12 = true)
    (f13 : Region.free .any ops (LR 19 [0, 1, 2, 3, 4, 5, 6, 7, 8, 9, 10, 11, 12]) 13 = true) (c13 : (Region.ready .any ops (LR 19 [0, 1, 2, 3, 4, 5, 6, 7, 8, 9, 10, 11, 12])).contains 13 = true)
    (f14 : Region.free .any ops (LR 19 [0, 1, 2, 3, 4, 5, 6, 7, 8, 9, 10, 11, 12, 13]) 14 = true) (c14 : (Region.ready .any ops (LR 19 [0, 1, 2, 3, 4, 5, 6, 7, 8, 9, 10, 11, 12, 13])).contains 14 = true)
    (f15 : Region.free .any ops (LR 19 [0, 1, 2, 3, 4, 5, 6, 7, 8, 9, 10, 11, 12, 13, 14]) 15 = true) (c15 : (Region.ready .any ops (LR 19 [0, 1, 2, 3, 4, 5, 6, 7, 8, 9, 10, 11, 12, 13, 14])).contains 15 = true)
    (f16 : Region.free .any ops (LR 19 [0, 1, 2, 3, 4, 5, 6, 7, 8, 9, 10, 11, 12, 13, 14, 15]) 16 = true) (c16 : (Region.ready .any ops (LR 19 [0, 1, 2, 3, 4, 5, 6, 7, 8, 9, 10, 11, 12, 13, 14, 15])).contains 16 = true)
    (f17 : Region.free .any ops (LR 19 [0, 1, 2, 3, 4, 5, 6, 7, 8, 9, 10, 11, 12, 13, 14, 15, 16]) 17 = true) (c17 : (Region.ready .any ops (LR 19 [0, 1, 2, 3, 4, 5, 6, 7, 8, 9, 10, 11, 12, 13, 14, 15, 16])).contains 17 = true)
    (f18 : Region.free .any ops (LR 19 [0, 1, 2, 3, 4, 5, 6, 7, 8, 9, 10, 11, 12, 13, 14, 15, 16, 17]) 18 = true) (c18 : (Region.ready .any ops (LR 19 [0, 1, 2, 3, 4, 5, 6, 7, 8, 9, 10, 11, 12, 13, 14, 15, 16, 17])).contains 18 = true)
    (rN : Region.ready .any ops (LR 19 [0, 1, 2, 3, 4, 5, 6, 7, 8, 9, 10, 11, 12, 13, 14, 15, 16, 17, 18]) = [])
    (a : Act) (ha : a.tmps.size = 92) (W : World) (hT : Tabs W) (b off lb cb k : Nat) (c : Int) (hk : k < lb) (hc0 : 0 ≤ c) (hc : (c % 4 == 0) = false) (hld : W.cell? ⟨b, off + k, none⟩ = some (.int .u8 c)) (ha1 : a.eval (.tmp 1) = .slice (some ⟨b, off, none⟩) lb cb) (ha8 : a.eval (.tmp 8) = .int .i64 (k : Nat))
    (fin : Q .normal ((((((((((((((((((((a.put (some 54) (.slice (some ⟨b, off, none⟩) lb cb)).put (some 55) (.int .i64 (k : Nat))).put (some 56) (.pointer (some ⟨b, off + k, none⟩))).put (some 57) (.int .u8 c)).put (some 58) (.int .u8 (c % 4))).put (some 59) (.bool false)).put (some 60) (.bool false)).put (some 61) (undef)).put (some 62) (undef)).put (some 63) (undef)).put (some 64) (undef)).put (some 65) (undef)).put (some 66) (undef)).put (some 67) (undef)).put (some 68) (undef)).put (some 69) (undef)).put (some 70) (undef)).put (some 71) (undef)).put (some 72) (.bool false))) W.drew) :
    (Code.region id L0.toArray true).wp Tryd.prog Q a W := by
  subst hops
  refine wp_mono (Q := plainQ Q) (wp_region_held (S := fun _ => True) (by kernel_rfl) ?_) (fun e a w h => by obtain ⟨rfl, h⟩ := h; exact h)
  change wpAnyH _ _ _ _ _ L0.toArray.size _ _ W.drew
  rw [hlen]
  rw [show Array.replicate 19 false = LR 19 [] from by decide]
  refine heldS_take (i := 0) (v := .slice (some ⟨b, off, none⟩) lb cb) p0 hsel f0 c0 (wanted_none g0) (fun X hX => exec_move e0 (by simp [eval_putT, size_putT, ha, ha1, ha8])) trivial ?_
  rw [show (LR 19 []).setIfInBounds 0 true = (LR 19 [0]) from by decide]
  rw [d0]
  refine heldS_take (i := 1) (v := .int .i64 (k : Nat)) p1 hsel f1 c1 (wanted_none g1) (fun X hX => exec_move e1 (by simp [eval_putT, size_putT, ha, ha1, ha8])) trivial ?_
  rw [show (LR 19 [0]).setIfInBounds 1 true = (LR 19 [0, 1]) from by decide]
  rw [d1]
  refine heldS_take (i := 2) (v := .pointer (some ⟨b, off + k, none⟩)) p2 hsel f2 c2 (wanted_none g2) (fun X hX => exec_idx8 (lb := lb) (cb := cb) hk e2 (by simp [eval_putT, size_putT, ha, ha1, ha8]) (by simp [eval_putT, size_putT, ha, ha1, ha8])) trivial ?_
  rw [show (LR 19 [0, 1]).setIfInBounds 2 true = (LR 19 [0, 1, 2]) from by decide]
  rw [d2]
  refine heldS_one p3 r3 (wanted_none g3) ?_
  refine wp_of_runT (w' := W.drew) (v := .int .u8 c) (exec_load8 e3 (by simp [eval_putT, size_putT, ha, ha1, ha8]) hld) ⟨trivial, ?_⟩
  rw [show (LR 19 [0, 1, 2]).setIfInBounds 3 true = (LR 19 [0, 1, 2, 3]) from by decide]
  rw [d3]
  refine heldS_take (i := 4) (v := .int .u8 (c % 4)) p4 hsel f4 c4 (wanted_none g4) (fun X hX => exec_rem4 hc0 e4 (by simp [eval_putT, size_putT, ha, ha1, ha8])) trivial ?_
  rw [show (LR 19 [0, 1, 2, 3]).setIfInBounds 4 true = (LR 19 [0, 1, 2, 3, 4]) from by decide]
  rw [d4]
  refine heldS_take (i := 5) (v := .bool false) p5 hsel f5 c5 (wanted_none g5) (fun X hX => exec_eqlnum (n := c % 4) (m := 0) Tryd.underlying5 e5 (by simp [eval_putT, size_putT, ha, ha1, ha8]) rfl hc) trivial ?_
  rw [show (LR 19 [0, 1, 2, 3, 4]).setIfInBounds 5 true = (LR 19 [0, 1, 2, 3, 4, 5]) from by decide]
  rw [d5]
  refine heldS_take (i := 6) (v := .bool false) p6 hsel f6 c6 (wanted_none g6) (fun X hX => exec_move e6 (by simp [eval_putT, size_putT, ha, ha1, ha8])) trivial ?_
  rw [show (LR 19 [0, 1, 2, 3, 4, 5]).setIfInBounds 6 true = (LR 19 [0, 1, 2, 3, 4, 5, 6]) from by decide]
  rw [d6]
  refine heldS_skip (i := 7) p7 hsel f7 c7 (unwanted (b' := false) g7 p6 d6 (by simp [eval_putT, size_putT, ha, ha1, ha8]) (by decide)) trivial ?_
  rw [show (LR 19 [0, 1, 2, 3, 4, 5, 6]).setIfInBounds 7 true = (LR 19 [0, 1, 2, 3, 4, 5, 6, 7]) from by decide]
  rw [d7]
  refine heldS_skip (i := 8) p8 hsel f8 c8 (unwanted (b' := false) g8 p6 d6 (by simp [eval_putT, size_putT, ha, ha1, ha8]) (by decide)) trivial ?_
  rw [show (LR 19 [0, 1, 2, 3, 4, 5, 6, 7]).setIfInBounds 8 true = (LR 19 [0, 1, 2, 3, 4, 5, 6, 7, 8]) from by decide]
  rw [d8]
  refine heldS_skip (i := 9) p9 hsel f9 c9 (unwanted (b' := false) g9 p6 d6 (by simp [eval_putT, size_putT, ha, ha1, ha8]) (by decide)) trivial ?_
  rw [show (LR 19 [0, 1, 2, 3, 4, 5, 6, 7, 8]).setIfInBounds 9 true = (LR 19 [0, 1, 2, 3, 4, 5, 6, 7, 8, 9]) from by decide]
  rw [d9]
  refine heldS_skip (i := 10) p10 hsel f10 c10 (unwanted (b' := false) g10 p6 d6 (by simp [eval_putT, size_putT, ha, ha1, ha8]) (by decide)) trivial ?_
  rw [show (LR 19 [0, 1, 2, 3, 4, 5, 6, 7, 8, 9]).setIfInBounds 10 true = (LR 19 [0, 1, 2, 3, 4, 5, 6, 7, 8, 9, 10]) from by decide]
  rw [d10]
  refine heldS_skip (i := 11) p11 hsel f11 c11 (unwanted (b' := false) g11 p6 d6 (by simp [eval_putT, size_putT, ha, ha1, ha8]) (by decide)) trivial ?_
  rw [show (LR 19 [0, 1, 2, 3, 4, 5, 6, 7, 8, 9, 10]).setIfInBounds 11 true = (LR 19 [0, 1, 2, 3, 4, 5, 6, 7, 8, 9, 10, 11]) from by decide]
  rw [d11]
  refine heldS_skip (i := 12) p12 hsel f12 c12 (unwanted (b' := false) g12 p6 d6 (by simp [eval_putT, size_putT, ha, ha1, ha8]) (by decide)) trivial ?_
  rw [show (LR 19 [0, 1, 2, 3, 4, 5, 6, 7, 8, 9, 10, 11]).setIfInBounds 12 true = (LR 19 [0, 1, 2, 3, 4, 5, 6, 7, 8, 9, 10, 11, 12]) from by decide]
  rw [d12]
  refine heldS_skip (i := 13) p13 hsel f13 c13 (unwanted (b' := false) g13 p6 d6 (by simp [eval_putT, size_putT, ha, ha1, ha8]) (by decide)) trivial ?_
  rw [show (LR 19 [0, 1, 2, 3, 4, 5, 6, 7, 8, 9, 10, 11, 12]).setIfInBounds 13 true = (LR 19 [0, 1, 2, 3, 4, 5, 6, 7, 8, 9, 10, 11, 12, 13]) from by decide]
  rw [d13]
  refine heldS_skip (i := 14) p14 hsel f14 c14 (unwanted (b' := false) g14 p6 d6 (by simp [eval_putT, size_putT, ha, ha1, ha8]) (by decide)) trivial ?_
  rw [show (LR 19 [0, 1, 2, 3, 4, 5, 6, 7, 8, 9, 10, 11, 12, 13]).setIfInBounds 14 true = (LR 19 [0, 1, 2, 3, 4, 5, 6, 7, 8, 9, 10, 11, 12, 13, 14]) from by decide]
  rw [d14]
  refine heldS_skip (i := 15) p15 hsel f15 c15 (unwanted (b' := false) g15 p6 d6 (by simp [eval_putT, size_putT, ha, ha1, ha8]) (by decide)) trivial ?_
  rw [show (LR 19 [0, 1, 2, 3, 4, 5, 6, 7, 8, 9, 10, 11, 12, 13, 14]).setIfInBounds 15 true = (LR 19 [0, 1, 2, 3, 4, 5, 6, 7, 8, 9, 10, 11, 12, 13, 14, 15]) from by decide]
  rw [d15]
  refine heldS_skip (i := 16) p16 hsel f16 c16 (unwanted (b' := false) g16 p6 d6 (by simp [eval_putT, size_putT, ha, ha1, ha8]) (by decide)) trivial ?_
  rw [show (LR 19 [0, 1, 2, 3, 4, 5, 6, 7, 8, 9, 10, 11, 12, 13, 14, 15]).setIfInBounds 16 true = (LR 19 [0, 1, 2, 3, 4, 5, 6, 7, 8, 9, 10, 11, 12, 13, 14, 15, 16]) from by decide]
  rw [d16]
  refine heldS_skip (i := 17) p17 hsel f17 c17 (unwanted (b' := false) g17 p6 d6 (by simp [eval_putT, size_putT, ha, ha1, ha8]) (by decide)) trivial ?_
  rw [show (LR 19 [0, 1, 2, 3, 4, 5, 6, 7, 8, 9, 10, 11, 12, 13, 14, 15, 16]).setIfInBounds 17 true = (LR 19 [0, 1, 2, 3, 4, 5, 6, 7, 8, 9, 10, 11, 12, 13, 14, 15, 16, 17]) from by decide]
  rw [d17]
  refine heldS_take (i := 18) (v := .bool false) p18 hsel f18 c18 (wanted_none g18) (fun X hX => exec_pick (b := false) (v := undef) (u := .bool false) e18 (by simp [eval_putT, size_putT, ha, ha1, ha8]) (by simp [eval_putT, size_putT, ha, ha1, ha8]) rfl) trivial ?_
  rw [show (LR 19 [0, 1, 2, 3, 4, 5, 6, 7, 8, 9, 10, 11, 12, 13, 14, 15, 16, 17]).setIfInBounds 18 true = (LR 19 [0, 1, 2, 3, 4, 5, 6, 7, 8, 9, 10, 11, 12, 13, 14, 15, 16, 17, 18]) from by decide]
  rw [d18]
  exact wpAnyH_done rN ⟨rfl, fin⟩ _
set_option maxRecDepth 100000 in
set_option maxHeartbeats 2000000 in
theorem pieces_yes (a : Option Addr) (xs : List Int) (ca : Nat) (b : Option Addr) (cs : List Int) (cb : Nat) (w : World) (hT : Tabs w) (h1 : xs.length ≤ 3000) (h2 : cs.length ≤ 300)
    (ha : Bys8 w.heap.size w (.slice a xs.length ca) xs) (hb : Bys8 w.heap.size w (.slice b cs.length cb) cs) (la : xs.length ≤ ca) (lb : cs.length ≤ cb) :
    Calls Tryd.prog 6 #[.slice a xs.length ca, .slice b cs.length cb] w fun e w' => e = .returned (.bool true) ∧ Below w.heap.size w w' := by
  have HT := Lib.hid hT
  have HA := Lib.hid ha
  have HB := Lib.hid hb
  have hlt := hT.lt
  clear hT ha hb
  go_enter Tryd.func6, Tryd.ntmps6
  go_wp2_with fail
  refine (alive_any w HT.out).mono ?_
  rintro e w1 ⟨rfl, hB1⟩
  have hz1 := hB1.size
  have D1 := Lib.hid hB1
  have T1 := Lib.hid (HT.out.below hlt hB1)
  have S1 := Lib.hid (shaAt_zero (show ShaIn (w1.alloc (.cells (shaC [0, 0, 0, 0, 0, 0, 0, 0] (fun _ => 0) 0) 32)) w1.heap.size _ _ _ from At.new _ w1 _))
  clear hB1
  go_wp2_with (refine build_sha rfl rfl ?_)
  have D2 : Below w.heap.size w (w1.alloc (.cells (shaC [0, 0, 0, 0, 0, 0, 0, 0] (fun _ => 0) 0) 32)) := D1.out.alloc hz1 _
  have T2 : Tabs (w1.alloc (.cells (shaC [0, 0, 0, 0, 0, 0, 0, 0] (fun _ => 0) 0) 32)) := T1.out.alloc _
  generalize w1.alloc (.cells (shaC [0, 0, 0, 0, 0, 0, 0, 0] (fun _ => 0) 0) 32) = w2 at *
  obtain ⟨S, hS⟩ : ∃ S, w1.heap.size = S := ⟨_, rfl⟩
  rw [hS] at S1 hz1 ⊢
  clear hS D1 T1
  go_loopw [7, 8] (fun rest i wr => ∃ (k m : Nat) (A' : Option Addr) (c' : Nat), k ≤ cs.length ∧ m ≤ xs.length ∧ i = .int .i64 k ∧ rest = .slice A' (xs.length - m) c' ∧ xs.length - m ≤ c' ∧ Bys8 w.heap.size w (.slice A' (xs.length - m) c') (xs.drop m) ∧ Tabs wr ∧ ShaAt wr S (xs.take m) ∧ Below w.heap.size w wr) (fun _ i _ => cs.length - (intOf i).toNat)
  case atStart => exact ⟨0, 0, a, ca, by omega, by omega, rfl, rfl, la, HA.out, T2, S1.out, D2⟩
  case round =>
    clear D2 T2 S1
    obtain ⟨k, m, A', c', hk, hm, rfl, rfl, hc', hR, hTr, hSr, hBr⟩ := hrel
    obtain ⟨L, hL⟩ : ∃ L, xs.length - m = L := ⟨_, rfl⟩
    rw [hL] at hc' hR ⊢
    have HR := Lib.hid hR
    have HTr := Lib.hid hTr
    have HSr := Lib.hid hSr
    have HBr := Lib.hid hBr
    clear hR hTr hSr hBr
    by_cases hgo : k < cs.length ∧ 0 < L
    · obtain ⟨hkl, hL0⟩ := hgo
      obtain ⟨hcr, hcell⟩ := HB.out
      rcases hcell with ⟨rfl, _⟩ | ⟨bb, off, cb', e, hbb, hcell⟩
      · simp at hkl
      · cases e
        have hce := hcell k hkl
        have hld := (HBr.out.cell (p := ⟨bb, off + k, none⟩) hbb).trans hce
        have hcb := HB.out.bd k
        obtain ⟨c, hcc⟩ : ∃ c, cs.getD k 0 = c := ⟨_, rfl⟩
        rw [hcc] at hld hcb
        obtain ⟨c0, c1⟩ := hcb
        have HCE := Lib.hid hce
        clear hcell hce hcr
        rw [hcc] at HCE
        clear hcc
        obtain ⟨n, hnL, hnm⟩ : ∃ n : Nat, n ≤ L ∧ (if (L : Int) < c then (L : Int) else c) = (n : Int) := by
          by_cases hcl : (L : Int) < c
          · exact ⟨L, Nat.le_refl _, by rw [if_pos hcl]⟩
          · exact ⟨c.toNat, by omega, by rw [if_neg hcl]; omega⟩
        obtain ⟨A2, c2, hs2, hr2, hc2⟩ := slice_from2 A' L c' n hnL hc'
        have hs1 := run_sliceh A' L c' n (by omega)
        have hyn : ((xs.drop m).take n).length = n := by rw [List.length_take, List.length_drop]; omega
        have HW := write_any S (xs.take m) ((xs.drop m).take n) A' c' (by omega) (by rw [hyn, List.length_take]; omega) (by rw [hyn]; omega) wr HTr.out HSr.out
          (fun X hX => bys_at (by rw [hyn]; exact HR.out.take n (by rw [List.length_drop]; omega)) HBr.out hz1 hX) (HR.out.take n (by rw [List.length_drop]; omega)).1
        rw [hyn, ← List.take_add] at HW
        have HWr := Lib.hid HW
        clear HW hyn
        go_wp2_with fail
        refine HWr.out.mono ?_
        rintro e w3 ⟨rfl, hX3, hG3⟩
        have D3 := HBr.out.trans (grown_below hG3 hz1 HBr.out.size)
        have T3 := HTr.out.grown hG3 (by omega)
        have hld3 := (D3.cell (p := ⟨bb, off + k, none⟩) hbb).trans HCE.out
        have HX3 := Lib.hid hX3
        have HD3 := Lib.hid D3
        have HT3 := Lib.hid T3
        clear hX3 hG3 D3 T3 HSr HTr HBr HWr hld
        have htl : (xs.take (m + n)).length = m + n := by rw [List.length_take]; omega
        have HTL := Lib.hid htl
        have hLe : xs.length - (m + n) = L - n := by omega
        have HLE := Lib.hid hLe
        clear htl hLe
        go_wp2_with fail
        obtain ⟨yb, hyb⟩ : ∃ yb, (c % 4 == 0) = yb := ⟨_, rfl⟩
        cases yb
        · refine region_pieces_no rfl rfl (by kernel_rfl) _ _ _ _ _ _ _ _ _ _ _ _ _ _ _ _ _ _ _ rfl rfl rfl rfl rfl rfl rfl rfl rfl rfl rfl rfl rfl rfl rfl rfl rfl rfl rfl rfl rfl rfl rfl rfl rfl rfl rfl rfl rfl rfl rfl rfl rfl rfl rfl rfl rfl rfl rfl rfl rfl rfl rfl rfl rfl rfl rfl rfl rfl rfl rfl rfl rfl rfl rfl rfl rfl rfl rfl rfl rfl rfl rfl rfl rfl rfl rfl rfl rfl rfl rfl rfl rfl rfl rfl rfl (by kernel_rfl) (by kernel_rfl) (by kernel_rfl) (by kernel_rfl) (by kernel_rfl) (by kernel_rfl) (by kernel_rfl) (by kernel_rfl) (by kernel_rfl) (by kernel_rfl) (by kernel_rfl) (by kernel_rfl) (by kernel_rfl) (by kernel_rfl) (by kernel_rfl) (by kernel_rfl) (by kernel_rfl) (by kernel_rfl) (by kernel_rfl) (by kernel_rfl) (by kernel_rfl) (by kernel_rfl) (by kernel_rfl) (by kernel_rfl) (by kernel_rfl) (by kernel_rfl) (by kernel_rfl) (by kernel_rfl) (by kernel_rfl) (by kernel_rfl) (by kernel_rfl) (by kernel_rfl) (by kernel_rfl) (by kernel_rfl) (by kernel_rfl) (by kernel_rfl) (by kernel_rfl) (by kernel_rfl) _ rfl w3 HT3.out bb off cs.length cb k c hkl c0 hyb hld3 rfl rfl ?_
          have ed : Below w3.heap.size w3 w3.drew := (Below.refl _ w3).drew
          clear hld3 hs1 hs2
          simp only [Act.put, List.setIfInBounds_toArray, List.set_cons_zero, List.set_cons_succ]
          go_wp2
          go_roundw
          case rel =>
            rw [← HLE.out] at hr2 hc2 ⊢
            exact ⟨k + 1, m + n, A2, c2, by omega, by omega, by go_num, rfl, hc2, by rw [← List.drop_drop]; exact hr2 _ _ _ HR.out, HT3.out.below HT3.out.lt ed, HX3.out.below ed HX3.out.lt, HD3.out.trans (ed.mono HD3.out.size)⟩
          case measure => simp [intOf]; omega
        · refine region_pieces_yes rfl rfl (by kernel_rfl) _ _ _ _ _ _ _ _ _ _ _ _ _ _ _ _ _ _ _ rfl rfl rfl rfl rfl rfl rfl rfl rfl rfl rfl rfl rfl rfl rfl rfl rfl rfl rfl rfl rfl rfl rfl rfl rfl rfl rfl rfl rfl rfl rfl rfl rfl rfl rfl rfl rfl rfl rfl rfl rfl rfl rfl rfl rfl rfl rfl rfl rfl rfl rfl rfl rfl rfl rfl rfl rfl rfl rfl rfl rfl rfl rfl rfl rfl rfl rfl rfl rfl rfl rfl rfl rfl rfl rfl rfl (by kernel_rfl) (by kernel_rfl) (by kernel_rfl) (by kernel_rfl) (by kernel_rfl) (by kernel_rfl) (by kernel_rfl) (by kernel_rfl) (by kernel_rfl) (by kernel_rfl) (by kernel_rfl) (by kernel_rfl) (by kernel_rfl) (by kernel_rfl) (by kernel_rfl) (by kernel_rfl) (by kernel_rfl) (by kernel_rfl) (by kernel_rfl) (by kernel_rfl) (by kernel_rfl) (by kernel_rfl) (by kernel_rfl) (by kernel_rfl) (by kernel_rfl) (by kernel_rfl) (by kernel_rfl) (by kernel_rfl) (by kernel_rfl) (by kernel_rfl) (by kernel_rfl) (by kernel_rfl) (by kernel_rfl) (by kernel_rfl) (by kernel_rfl) (by kernel_rfl) _ rfl w3 HT3.out bb off cs.length cb k c hkl c0 hyb hld3 rfl rfl S (xs.take (m + n)) (by rw [HTL.out]; omega) HX3.out a A2 xs.length ca (L - n) c2 (by rw [HTL.out]; omega) (by rw [HTL.out, IntKind.wrap_i64]; omega) (fun X hX => by rw [HTL.out]; exact ((HA.out.below (HD3.out.trans (hX.mono HD3.out.size))).take (m + n) (by omega)).mono (Nat.le_trans HD3.out.size hX.size)) rfl rfl rfl ?_
          intro X ed
          have ED := Lib.hid ed
          clear hld3 hs1 hs2 ed
          simp only [Act.put, List.setIfInBounds_toArray, List.set_cons_zero, List.set_cons_succ]
          go_wp2
          go_roundw
          case rel =>
            have ed := ED.out
            rw [← HLE.out] at hr2 hc2 ⊢
            exact ⟨k + 1, m + n, A2, c2, by omega, by omega, by go_num, rfl, hc2, by rw [← List.drop_drop]; exact hr2 _ _ _ HR.out, HT3.out.below HT3.out.lt ed, HX3.out.below ed HX3.out.lt, HD3.out.trans (ed.mono HD3.out.size)⟩
          case measure => simp [intOf]; omega
    · have hyl : (xs.drop m).length = L := by rw [List.length_drop]; exact hL
      have HW := write_any S (xs.take m) (xs.drop m) A' c' (by omega) (by rw [hyl, List.length_take]; omega) (by rw [hyl]; omega) wr HTr.out HSr.out (fun X hX => bys_at (by rw [hyl]; exact HR.out) HBr.out hz1 hX) HR.out.1
      rw [hyl, List.take_append_drop] at HW
      have HWr := Lib.hid HW
      have e1 := eq_hash (bf (sha xs))
      have hw : IntKind.u64.wrap (xs.length : Int) = (xs.length : Int) := by rw [IntKind.wrap_u64]; omega
      clear HW hyl
      have hor : (k < cs.length ∧ L = 0) ∨ ¬ k < cs.length := by omega
      rcases hor with ⟨hkl, rfl⟩ | hkl
      all_goals (
        go_wp2_with fail
        refine HWr.out.mono ?_
        rintro e w3 ⟨rfl, hX3, hG3⟩
        have HX3 := Lib.hid hX3
        have HD3 := Lib.hid (HBr.out.trans (grown_below hG3 hz1 HBr.out.size))
        have HT3 := Lib.hid (HTr.out.grown hG3 (by omega))
        clear hX3 hG3 HSr HTr HBr HWr
        go_wp2_with fail
        refine (sum_any S xs (by omega) w3 HT3.out HX3.out).mono ?_
        rintro e w4 ⟨rfl, hB4⟩
        have HX4 := Lib.hid (HX3.out.below hB4 HX3.out.lt)
        have HT4 := Lib.hid (HT3.out.below HT3.out.lt hB4)
        have HD4 := Lib.hid (HD3.out.trans (hB4.mono HD3.out.size))
        clear hB4 HX3 HT3 HD3
        go_wp2_with fail
        refine (of_any a xs ca (by omega) la w4 HT4.out ((HA.out.below HD4.out).mono HD4.out.size)).mono ?_
        rintro e w5 ⟨rfl, hB5⟩
        have HX5 := Lib.hid (HX4.out.below hB5 HX4.out.lt)
        have HD5 := Lib.hid (HD4.out.trans (hB5.mono HD4.out.size))
        clear hB5 HX4 HT4 HD4
        go_wp2_with fail
        refine (len_any S xs w5 HX5.out).mono ?_
        rintro e _ ⟨rfl, rfl⟩
        go_wp2
        go_ret
        exact ⟨by simp, HD5.out⟩)
theorem pieces_long (a : Option Addr) (la ca : Nat) (b : Option Addr) (lb cb : Nat) (w : World) (hT : Tabs w) (h : ¬ (la ≤ 3000 ∧ lb ≤ 300)) :
    Calls Tryd.prog 6 #[.slice a la ca, .slice b lb cb] w fun e w' => e = .returned (.bool true) ∧ Below w.heap.size w w' := by
  have hal := alive_any w hT
  clear hT
  have hor : 3000 < la ∨ (la ≤ 3000 ∧ 300 < lb) := by omega
  clear h
  rcases hor with h1 | ⟨h1, h2⟩
  all_goals (
    go_enter Tryd.func6, Tryd.ntmps6
    go_wp2_with fail
    refine hal.mono ?_
    rintro e w1 ⟨rfl, hB1⟩
    go_wp2
    go_ret
    exact ⟨rfl, hB1⟩)
theorem pieces_any (a : Option Addr) (la ca : Nat) (za : List Int) (b : Option Addr) (lb cb : Nat) (zb : List Int) (w : World) (hT : Tabs w) (ha : IsRow .u8 w a la ca za) (hb : IsRow .u8 w b lb cb zb) :
    Calls Tryd.prog 6 #[.slice a la ca, .slice b lb cb] w fun e w' => e = .returned (.bool true) ∧ Below w.heap.size w w' := by
  by_cases h : la ≤ 3000 ∧ lb ≤ 300
  · obtain ⟨xs, rfl, hI⟩ := bys8_of_row ha
    obtain ⟨cs, rfl, hJ⟩ := bys8_of_row hb
    exact pieces_yes a xs ca b cs cb w hT h.1 h.2 hI hJ (row_le ha) (row_le hb)
  · exact pieces_long a la ca b lb cb w hT h
end Go.Proofs.YthjjlkoddmljbaaDoor
