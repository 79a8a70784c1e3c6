/- The walk of the statement ShaNames: the chapter's examples, the nil Sha, texts that are none. -/
import Derived.Test.YthjjlkoddmljbaaDoorSBackWalk
import Derived.Test.YthjjlkoddmljbaaDoorSWrite
import Derived.Test.YthjjlkoddmljbaaDoorSReg
import Derived.Lib.SlBytesConst
set_option linter.unusedVariables false
set_option linter.unusedSimpArgs false
namespace Go.Proofs.YthjjlkoddmljbaaDoor
open Go.RowKit Go.Shelf
theorem write_nil (Ab : Option Addr) (yl cb : Nat) (w : World) :
    Calls Tryd.prog 10 #[.pointer none, .slice Ab yl cb] w fun e w' => e = .returned (.tuple #[]) ∧ Below w.heap.size w w' := by
  refine (callsIn_wide (n := 4)).1 ?_
  refine callsIn_of_wp_marks Tryd.func10 rfl trivial ?_ rfl
  simp only [Tryd.ntmps10, List.size_toArray, List.length_cons, List.length_nil, Nat.reduceAdd, Nat.reduceSub, Array.replicate_succ, Array.replicate_zero, List.push_toArray, List.append_toArray, List.nil_append, List.cons_append]
  gi_wp2
  refine wpIn_scope_straight ?_
  gi_wp2
  rw [Exit.noGoto_ret]
  exact ⟨_, results_none rfl _ _ _, rfl, (Below.refl _ w).alloc (Nat.le_refl _) _⟩
theorem parse_none (s : ByteArray) (h : ¬ HexText (strB s)) (w : World) : Calls Tryd.prog 16 #[.string s] w fun e w' => e = .returned NoHash ∧ Below w.heap.size w w' :=
  (parse_any s w).mono fun e w' ⟨he, hb⟩ => ⟨he.elim (fun x => absurd x.1 h) (fun x => x.2), hb⟩
theorem sha_length (xs : List Int) : (sha xs).length = 32 := joined_length _
theorem parse_abc (w : World) : Calls Tryd.prog 16 #[.string ⟨#[98, 97, 55, 56, 49, 54, 98, 102, 56, 102, 48, 49, 99, 102, 101, 97, 52, 49, 52, 49, 52, 48, 100, 101, 53, 100, 97, 101, 50, 50, 50, 51, 98, 48, 48, 51, 54, 49, 97, 51, 57, 54, 49, 55, 55, 97, 57, 99, 98, 52, 49, 48, 102, 102, 54, 49, 102, 50, 48, 48, 49, 53, 97, 100]⟩] w fun e w' => e = .returned (.tuple #[.agg (nums .u8 32 (bf (sha [97, 98, 99]))), .int .i64 0]) ∧ Below w.heap.size w w' := by
  rw [← str_abc]
  exact parse_texted (sha_bytes _) (sha_length _) w
theorem str_long : strOfNums (texted (sha (strB ⟨#[97, 98, 99, 100, 98, 99, 100, 101, 99, 100, 101, 102, 100, 101, 102, 103, 101, 102, 103, 104, 102, 103, 104, 105, 103, 104, 105, 106, 104, 105, 106, 107, 105, 106, 107, 108, 106, 107, 108, 109, 107, 108, 109, 110, 108, 109, 110, 111, 109, 110, 111, 112, 110, 111, 112, 113]⟩))) = ⟨#[50, 52, 56, 100, 54, 97, 54, 49, 100, 50, 48, 54, 51, 56, 98, 56, 101, 53, 99, 48, 50, 54, 57, 51, 48, 99, 51, 101, 54, 48, 51, 57, 97, 51, 51, 99, 101, 52, 53, 57, 54, 52, 102, 102, 50, 49, 54, 55, 102, 54, 101, 99, 101, 100, 100, 52, 49, 57, 100, 98, 48, 54, 99, 49]⟩ := by
  rw [show strB ⟨#[97, 98, 99, 100, 98, 99, 100, 101, 99, 100, 101, 102, 100, 101, 102, 103, 101, 102, 103, 104, 102, 103, 104, 105, 103, 104, 105, 106, 104, 105, 106, 107, 105, 106, 107, 108, 106, 107, 108, 109, 107, 108, 109, 110, 108, 109, 110, 111, 109, 110, 111, 112, 110, 111, 112, 113]⟩ = [97, 98, 99, 100, 98, 99, 100, 101, 99, 100, 101, 102, 100, 101, 102, 103, 101, 102, 103, 104, 102, 103, 104, 105, 103, 104, 105, 106, 104, 105, 106, 107, 105, 106, 107, 108, 106, 107, 108, 109, 107, 108, 109, 110, 108, 109, 110, 111, 109, 110, 111, 112, 110, 111, 112, 113] from rfl, text_long]; decide +kernel
theorem conv_three (g : Nat) (w : World) (hg : g = w.heap.size) : (convert 33 33 (.slice (some ⟨g, 0, none⟩) 3 3)).run Tryd.prog (w.alloc (.cells #[.int .u8 97, .int .u8 98, .int .u8 99] 5)) = .ok (.slice (some ⟨g, 0, none⟩) 3 3) (w.alloc (.cells #[.int .u8 97, .int .u8 98, .int .u8 99] 5 (3, 4))) := by
  subst hg
  exact Lib.run_convert_bytes_const (P := Tryd.prog) w 33 5 #[.int .u8 97, .int .u8 98, .int .u8 99] 3 3 Tryd.underlying33 Tryd.underlying5
theorem of_three (w : World) (hT : Tabs w) : Calls Tryd.prog 15 #[.slice (some ⟨w.heap.size, 0, none⟩) 3 3] (w.alloc (.cells #[.int .u8 97, .int .u8 98, .int .u8 99] 5 (3, 4))).drew fun e w' => e = .returned (.agg (nums .u8 32 (bf (sha [97, 98, 99])))) ∧ Below w.heap.size w w' := by
  have hb := bys8_alloc (T := 5) w.drew [97, 98, 99] (by intro z hz; simp at hz; omega) #[.int .u8 97, .int .u8 98, .int .u8 99] rfl 3 3 rfl (3, 4)
  have hB : Below w.heap.size w (w.alloc (.cells #[.int .u8 97, .int .u8 98, .int .u8 99] 5 (3, 4))).drew := ((Below.refl _ w).alloc (Nat.le_refl _) _).drew
  refine (of_any _ [97, 98, 99] 3 (by simp) (by simp) _ (hT.drew.alloc _) hb).mono ?_
  rintro e w' ⟨he, hx⟩
  exact ⟨he, hB.trans (hx.mono hB.size)⟩
theorem of_none (w : World) (hT : Tabs w) : Calls Tryd.prog 15 #[.slice none 0 0] w fun e w' => e = .returned (.agg (nums .u8 32 (bf (sha [])))) ∧ Below w.heap.size w w' :=
  of_any none [] 0 (by simp) (by simp) w hT (bys8_nil _ w none 0)
set_option maxHeartbeats 1000000 in
theorem region_names {id : Nat} {Q : Exit → Act → World → Prop} {L0 : List Oper} {ops : Array Oper} (hops : L0.toArray = ops) (hlen : ops.size = 22) (hsel : Region.noSelect ops = true) (o0 o1 o2 o3 o4 o5 o6 o7 o8 o9 o10 o11 o12 o13 o14 o15 o16 o17 o18 o19 o20 o21 : Oper)
    (p0 : ops[0]? = some o0) (e0 : o0.op = .move (.tmp 2)) (d0 : o0.dst = some 31) (g0 : o0.guard = none)
    (p1 : ops[1]? = some o1) (e1 : o1.op = .binOp .eql 43 (.tmp 31) (.const (.int .i64 0)) 43) (d1 : o1.dst = some 32) (g1 : o1.guard = none)
    (p2 : ops[2]? = some o2) (e2 : o2.op = .move (.tmp 32)) (d2 : o2.dst = some 33) (g2 : o2.guard = none)
    (p3 : ops[3]? = some o3) (e3 : o3.op = .load 38 (.tmp 1)) (d3 : o3.dst = some 34) (g3 : o3.guard = some (2, true))
    (p4 : ops[4]? = some o4) (e4 : o4.op = .buildSlice 33 3 #[(0, .const (.int .u8 97)), (1, .const (.int .u8 98)), (2, .const (.int .u8 99))]) (d4 : o4.dst = some 35) (g4 : o4.guard = some (2, true))
    (p5 : ops[5]? = some o5) (e5 : o5.op = .convert 33 33 (.tmp 35)) (d5 : o5.dst = some 36) (g5 : o5.guard = some (2, true))
    (p6 : ops[6]? = some o6) (e6 : o6.op = .call { callee := .value (.func 15), args := #[.tmp 36], argTypes := #[33] }) (d6 : o6.dst = some 37) (g6 : o6.guard = some (2, true))
    (p7 : ops[7]? = some o7) (e7 : o7.op = .binOp .eql 38 (.tmp 34) (.tmp 37) 38) (d7 : o7.dst = some 38) (g7 : o7.guard = some (2, true))
    (p8 : ops[8]? = some o8) (e8 : o8.op = .pick (.tmp 33) (.tmp 38) (.const (.bool false))) (d8 : o8.dst = some 39) (g8 : o8.guard = none)
    (p9 : ops[9]? = some o9) (e9 : o9.op = .move (.tmp 39)) (d9 : o9.dst = some 40) (g9 : o9.guard = none)
    (p10 : ops[10]? = some o10) (e10 : o10.op = .move (.tmp 4)) (d10 : o10.dst = some 41) (g10 : o10.guard = some (9, true))
    (p11 : ops[11]? = some o11) (e11 : o11.op = .binOp .eql 43 (.tmp 41) (.const (.int .i64 40)) 43) (d11 : o11.dst = some 42) (g11 : o11.guard = some (9, true))
    (p12 : ops[12]? = some o12) (e12 : o12.op = .pick (.tmp 40) (.tmp 42) (.const (.bool false))) (d12 : o12.dst = some 43) (g12 : o12.guard = none)
    (p13 : ops[13]? = some o13) (e13 : o13.op = .move (.tmp 43)) (d13 : o13.dst = some 44) (g13 : o13.guard = none)
    (p14 : ops[14]? = some o14) (e14 : o14.op = .move (.tmp 6)) (d14 : o14.dst = some 45) (g14 : o14.guard = some (13, true))
    (p15 : ops[15]? = some o15) (e15 : o15.op = .binOp .eql 43 (.tmp 45) (.const (.int .i64 40)) 43) (d15 : o15.dst = some 46) (g15 : o15.guard = some (13, true))
    (p16 : ops[16]? = some o16) (e16 : o16.op = .pick (.tmp 44) (.tmp 46) (.const (.bool false))) (d16 : o16.dst = some 47) (g16 : o16.guard = none)
    (p17 : ops[17]? = some o17) (e17 : o17.op = .move (.tmp 47)) (d17 : o17.dst = some 48) (g17 : o17.guard = none)
    (p18 : ops[18]? = some o18) (e18 : o18.op = .move (.tmp 8)) (d18 : o18.dst = some 49) (g18 : o18.guard = some (17, true))
    (p19 : ops[19]? = some o19) (e19 : o19.op = .binOp .eql 43 (.tmp 49) (.const (.int .i64 40)) 43) (d19 : o19.dst = some 50) (g19 : o19.guard = some (17, true))
    (p20 : ops[20]? = some o20) (e20 : o20.op = .pick (.tmp 48) (.tmp 50) (.const (.bool false))) (d20 : o20.dst = some 51) (g20 : o20.guard = none)
    (p21 : ops[21]? = some o21) (e21 : o21.op = .assign (.tmp 51)) (d21 : o21.dst = some 10) (g21 : o21.guard = none)
    (f0 : Region.free .any ops (LR 22 []) 0 = true) (c0 : (Region.ready .any ops (LR 22 [])).contains 0 = true)
    (f1 : Region.free .any ops (LR 22 [0]) 1 = true) (c1 : (Region.ready .any ops (LR 22 [0])).contains 1 = true)
    (f2 : Region.free .any ops (LR 22 [0, 1]) 2 = true) (c2 : (Region.ready .any ops (LR 22 [0, 1])).contains 2 = true)
    (f3 : Region.free .any ops (LR 22 [0, 1, 2]) 3 = true) (c3 : (Region.ready .any ops (LR 22 [0, 1, 2])).contains 3 = true)
    (r4 : Region.ready .any ops (LR 22 [0, 1, 2, 3]) = [4])
    (r5 : Region.ready .any ops (LR 22 [0, 1, 2, 3, 4]) = [5])
    (r6 : Region.ready .any ops (LR 22 [0, 1, 2, 3, 4, 5]) = [6])
    (f7 : Region.free .any ops (LR 22 [0, 1, 2, 3, 4, 5, 6]) 7 = true) (c7 : (Region.ready .any ops (LR 22 [0, 1, 2, 3, 4, 5, 6])).contains 7 = true)
    (f8 : Region.free .any ops (LR 22 [0, 1, 2, 3, 4, 5, 6, 7]) 8 = true) (c8 : (Region.ready .any ops (LR 22 [0, 1, 2, 3, 4, 5, 6, 7])).contains 8 = true)
    (f9 : Region.free .any ops (LR 22 [0, 1, 2, 3, 4, 5, 6, 7, 8]) 9 = true) (c9 : (Region.ready .any ops (LR 22 [0, 1, 2, 3, 4, 5, 6, 7, 8])).contains 9 = true)
    (f10 : Region.free .any ops (LR 22 [0, 1, 2, 3, 4, 5, 6, 7, 8, 9]) 10 = true) (c10 : (Region.ready .any ops (LR 22 [0, 1, 2, 3, 4, 5, 6, 7, 8, 9])).contains 10 = true)
    (f11 : Region.free .any ops (LR 22 [0, 1, 2, 3, 4, 5, 6, 7, 8, 9, 10]) 11 = true) (c11 : (Region.ready .any ops (LR 22 [0, 1, 2, 3, 4, 5, 6, 7, 8, 9, 10])).contains 11 = true)
    (f12 : Region.free .any ops (LR 22 [0, 1, 2, 3, 4, 5, 6, 7, 8, 9, 10, 11]) 12 = true) (c12 : (Region.ready .any ops (LR 22 [0, 1, 2, 3, 4, 5, 6, 7, 8, 9, 10, 11])).contains 12 = true)
    (f13 : Region.free .any ops (LR 22 [0, 1, 2, 3, 4, 5, 6, 7, 8, 9, 10, 11, 12]) 13 = true) (c13 : (Region.ready .any ops (LR 22 [0, 1, 2, 3, 4, 5, 6, 7, 8, 9, 10, 11, 12])).contains 13 = true)
    (f14 : Region.free .any ops (LR 22 [0, 1, 2, 3, 4, 5, 6, 7, 8, 9, 10, 11, 12, 13]) 14 = true) (c14 : (Region.ready .any ops (LR 22 [0, 1, 2, 3, 4, 5, 6, 7, 8, 9, 10, 11, 12, 13])).contains 14 = true)
    (f15 : Region.free .any ops (LR 22 [0, 1, 2, 3, 4, 5, 6, 7, 8, 9, 10, 11, 12, 13, 14]) 15 = true) (c15 : (Region.ready .any ops (LR 22 [0, 1, 2, 3, 4, 5, 6, 7, 8, 9, 10, 11, 12, 13, 14])).contains 15 = true)
    (f16 : Region.free .any ops (LR 22 [0, 1, 2, 3, 4, 5, 6, 7, 8, 9, 10, 11, 12, 13, 14, 15]) 16 = true) (c16 : (Region.ready .any ops (LR 22 [0, 1, 2, 3, 4, 5, 6, 7, 8, 9, 10, 11, 12, 13, 14, 15])).contains 16 = true)
    (f17 : Region.free .any ops (LR 22 [0, 1, 2, 3, 4, 5, 6, 7, 8, 9, 10, 11, 12, 13, 14, 15, 16]) 17 = true) (c17 : (Region.ready .any ops (LR 22 [0, 1, 2, 3, 4, 5, 6, 7, 8, 9, 10, 11, 12, 13, 14, 15, 16])).contains 17 = true)
    (f18 : Region.free .any ops (LR 22 [0, 1, 2, 3, 4, 5, 6, 7, 8, 9, 10, 11, 12, 13, 14, 15, 16, 17]) 18 = true) (c18 : (Region.ready .any ops (LR 22 [0, 1, 2, 3, 4, 5, 6, 7, 8, 9, 10, 11, 12, 13, 14, 15, 16, 17])).contains 18 = true)
    (f19 : Region.free .any ops (LR 22 [0, 1, 2, 3, 4, 5, 6, 7, 8, 9, 10, 11, 12, 13, 14, 15, 16, 17, 18]) 19 = true) (c19 : (Region.ready .any ops (LR 22 [0, 1, 2, 3, 4, 5, 6, 7, 8, 9, 10, 11, 12, 13, 14, 15, 16, 17, 18])).contains 19 = true)
    (f20 : Region.free .any ops (LR 22 [0, 1, 2, 3, 4, 5, 6, 7, 8, 9, 10, 11, 12, 13, 14, 15, 16, 17, 18, 19]) 20 = true) (c20 : (Region.ready .any ops (LR 22 [0, 1, 2, 3, 4, 5, 6, 7, 8, 9, 10, 11, 12, 13, 14, 15, 16, 17, 18, 19])).contains 20 = true)
    (f21 : Region.free .any ops (LR 22 [0, 1, 2, 3, 4, 5, 6, 7, 8, 9, 10, 11, 12, 13, 14, 15, 16, 17, 18, 19, 20]) 21 = true) (c21 : (Region.ready .any ops (LR 22 [0, 1, 2, 3, 4, 5, 6, 7, 8, 9, 10, 11, 12, 13, 14, 15, 16, 17, 18, 19, 20])).contains 21 = true)
    (rN : Region.ready .any ops (LR 22 [0, 1, 2, 3, 4, 5, 6, 7, 8, 9, 10, 11, 12, 13, 14, 15, 16, 17, 18, 19, 20, 21]) = [])
    (a : Act) (ha : a.tmps.size = 77) (g : Nat) (W : World) (hT : Tabs W) (hS0 : At 38 W g (nums .u8 32 (bf (sha [97, 98, 99])))) (ha1 : a.eval (.tmp 1) = .pointer (some ⟨g, 0, none⟩)) (ha2 : a.eval (.tmp 2) = .int .i64 0) (ha4 : a.eval (.tmp 4) = .int .i64 40) (ha6 : a.eval (.tmp 6) = .int .i64 40) (ha8 : a.eval (.tmp 8) = .int .i64 40)
    (fin : ∀ X, Below W.heap.size W X → Q .normal (((((((((((((((((((((((a.put (some 31) (.int .i64 0)).put (some 32) (.bool true)).put (some 33) (.bool true)).put (some 34) (.agg (nums .u8 32 (bf (sha [97, 98, 99]))))).put (some 35) (.slice (some ⟨W.heap.size, 0, none⟩) 3 3)).put (some 36) (.slice (some ⟨W.heap.size, 0, none⟩) 3 3)).put (some 37) (.agg (nums .u8 32 (bf (sha [97, 98, 99]))))).put (some 38) (.bool true)).put (some 39) (.bool true)).put (some 40) (.bool true)).put (some 41) (.int .i64 40)).put (some 42) (.bool true)).put (some 43) (.bool true)).put (some 44) (.bool true)).put (some 45) (.int .i64 40)).put (some 46) (.bool true)).put (some 47) (.bool true)).put (some 48) (.bool true)).put (some 49) (.int .i64 40)).put (some 50) (.bool true)).put (some 51) (.bool true)).put (some 10) (.bool true))) X) :
    (Code.region id L0.toArray true).wp Tryd.prog Q a W := by
  subst hops
  refine wp_mono (Q := plainQ Q) (wp_region_held (S := fun X => At 38 X g (nums .u8 32 (bf (sha [97, 98, 99])))) (by kernel_rfl) ?_) (fun e a w h => by obtain ⟨rfl, h⟩ := h; exact h)
  change wpAnyH _ _ _ _ _ L0.toArray.size _ _ W.drew
  rw [hlen]
  rw [show Array.replicate 22 false = LR 22 [] from by decide]
  refine heldS_take (i := 0) (v := .int .i64 0) p0 hsel f0 c0 (wanted_none g0) (fun X hX => exec_move e0 (by simp [eval_putT, size_putT, ha, ha1, ha2, ha4, ha6, ha8])) hS0 ?_
  rw [show (LR 22 []).setIfInBounds 0 true = (LR 22 [0]) from by decide]
  rw [d0]
  refine heldS_take (i := 1) (v := .bool true) p1 hsel f1 c1 (wanted_none g1) (fun X hX => exec_eqlnum (n := 0) (m := 0) Tryd.underlying43 e1 (by simp [eval_putT, size_putT, ha, ha1, ha2, ha4, ha6, ha8]) rfl rfl) hS0 ?_
  rw [show (LR 22 [0]).setIfInBounds 1 true = (LR 22 [0, 1]) from by decide]
  rw [d1]
  refine heldS_take (i := 2) (v := .bool true) p2 hsel f2 c2 (wanted_none g2) (fun X hX => exec_move e2 (by simp [eval_putT, size_putT, ha, ha1, ha2, ha4, ha6, ha8])) hS0 ?_
  rw [show (LR 22 [0, 1]).setIfInBounds 2 true = (LR 22 [0, 1, 2]) from by decide]
  rw [d2]
  refine heldS_take (i := 3) (v := .agg (nums .u8 32 (bf (sha [97, 98, 99])))) p3 hsel f3 c3 (wanted_some g3 p2 d2 (by simp [size_putT, ha]) (by simp [eval_putT, size_putT, ha, ha1, ha2, ha4, ha6, ha8])) (fun X hX => exec_loadhash e3 (by simp [eval_putT, size_putT, ha, ha1, ha2, ha4, ha6, ha8]) hX) hS0 ?_
  rw [show (LR 22 [0, 1, 2]).setIfInBounds 3 true = (LR 22 [0, 1, 2, 3]) from by decide]
  rw [d3]
  refine heldS_one p4 r4 (wanted_some g4 p2 d2 (by simp [size_putT, ha]) (by simp [eval_putT, size_putT, ha, ha1, ha2, ha4, ha6, ha8])) ?_
  refine wp_of_runT (w' := W.drew.alloc (.cells #[.int .u8 97, .int .u8 98, .int .u8 99] 5)) (v := .slice (some ⟨W.heap.size, 0, none⟩) 3 3) (exec_three e4) ⟨At.alloc hS0 _, ?_⟩
  rw [show (LR 22 [0, 1, 2, 3]).setIfInBounds 4 true = (LR 22 [0, 1, 2, 3, 4]) from by decide]
  rw [d4]
  refine heldS_one p5 r5 (wanted_some g5 p2 d2 (by simp [size_putT, ha]) (by simp [eval_putT, size_putT, ha, ha1, ha2, ha4, ha6, ha8])) ?_
  refine wp_of_runT (w' := W.drew.alloc (.cells #[.int .u8 97, .int .u8 98, .int .u8 99] 5 (3, 4))) (v := .slice (some ⟨W.heap.size, 0, none⟩) 3 3) (exec_conv e5 (by simp [eval_putT, size_putT, ha, ha1, ha2, ha4, ha6, ha8]) (conv_three W.heap.size W.drew rfl)) ⟨At.alloc hS0 _, ?_⟩
  rw [show (LR 22 [0, 1, 2, 3, 4]).setIfInBounds 5 true = (LR 22 [0, 1, 2, 3, 4, 5]) from by decide]
  rw [d5]
  refine heldS_one p6 r6 (wanted_some g6 p2 d2 (by simp [size_putT, ha]) (by simp [eval_putT, size_putT, ha, ha1, ha2, ha4, ha6, ha8])) ?_
  refine wp_call e6 (by simp [eval_putT, size_putT, ha, ha1, ha2, ha4, ha6, ha8]) (enters_of Tryd.func15 (by kernel_rfl) rfl) (of_three W hT) ?_
  intro X q
  have hS6 := At.below hS0 hS0.lt q
  refine ⟨hS6, ?_⟩
  rw [show (LR 22 [0, 1, 2, 3, 4, 5]).setIfInBounds 6 true = (LR 22 [0, 1, 2, 3, 4, 5, 6]) from by decide]
  rw [d6]
  refine heldS_take (i := 7) (v := .bool true) p7 hsel f7 c7 (wanted_some g7 p2 d2 (by simp [size_putT, ha]) (by simp [eval_putT, size_putT, ha, ha1, ha2, ha4, ha6, ha8])) (fun X hX => exec_eqhash (f := bf (sha [97, 98, 99])) e7 (by simp [eval_putT, size_putT, ha, ha1, ha2, ha4, ha6, ha8]) (by simp [eval_putT, size_putT, ha, ha1, ha2, ha4, ha6, ha8])) hS6 ?_
  rw [show (LR 22 [0, 1, 2, 3, 4, 5, 6]).setIfInBounds 7 true = (LR 22 [0, 1, 2, 3, 4, 5, 6, 7]) from by decide]
  rw [d7]
  refine heldS_take (i := 8) (v := .bool true) p8 hsel f8 c8 (wanted_none g8) (fun X hX => exec_pick (b := true) (v := .bool true) e8 (by simp [eval_putT, size_putT, ha, ha1, ha2, ha4, ha6, ha8]) (by simp [eval_putT, size_putT, ha, ha1, ha2, ha4, ha6, ha8]) rfl) hS6 ?_
  rw [show (LR 22 [0, 1, 2, 3, 4, 5, 6, 7]).setIfInBounds 8 true = (LR 22 [0, 1, 2, 3, 4, 5, 6, 7, 8]) from by decide]
  rw [d8]
  refine heldS_take (i := 9) (v := .bool true) p9 hsel f9 c9 (wanted_none g9) (fun X hX => exec_move e9 (by simp [eval_putT, size_putT, ha, ha1, ha2, ha4, ha6, ha8])) hS6 ?_
  rw [show (LR 22 [0, 1, 2, 3, 4, 5, 6, 7, 8]).setIfInBounds 9 true = (LR 22 [0, 1, 2, 3, 4, 5, 6, 7, 8, 9]) from by decide]
  rw [d9]
  refine heldS_take (i := 10) (v := .int .i64 40) p10 hsel f10 c10 (wanted_some g10 p9 d9 (by simp [size_putT, ha]) (by simp [eval_putT, size_putT, ha, ha1, ha2, ha4, ha6, ha8])) (fun X hX => exec_move e10 (by simp [eval_putT, size_putT, ha, ha1, ha2, ha4, ha6, ha8])) hS6 ?_
  rw [show (LR 22 [0, 1, 2, 3, 4, 5, 6, 7, 8, 9]).setIfInBounds 10 true = (LR 22 [0, 1, 2, 3, 4, 5, 6, 7, 8, 9, 10]) from by decide]
  rw [d10]
  refine heldS_take (i := 11) (v := .bool true) p11 hsel f11 c11 (wanted_some g11 p9 d9 (by simp [size_putT, ha]) (by simp [eval_putT, size_putT, ha, ha1, ha2, ha4, ha6, ha8])) (fun X hX => exec_eqlnum (n := 40) (m := 40) Tryd.underlying43 e11 (by simp [eval_putT, size_putT, ha, ha1, ha2, ha4, ha6, ha8]) rfl rfl) hS6 ?_
  rw [show (LR 22 [0, 1, 2, 3, 4, 5, 6, 7, 8, 9, 10]).setIfInBounds 11 true = (LR 22 [0, 1, 2, 3, 4, 5, 6, 7, 8, 9, 10, 11]) from by decide]
  rw [d11]
  refine heldS_take (i := 12) (v := .bool true) p12 hsel f12 c12 (wanted_none g12) (fun X hX => exec_pick (b := true) (v := .bool true) e12 (by simp [eval_putT, size_putT, ha, ha1, ha2, ha4, ha6, ha8]) (by simp [eval_putT, size_putT, ha, ha1, ha2, ha4, ha6, ha8]) rfl) hS6 ?_
  rw [show (LR 22 [0, 1, 2, 3, 4, 5, 6, 7, 8, 9, 10, 11]).setIfInBounds 12 true = (LR 22 [0, 1, 2, 3, 4, 5, 6, 7, 8, 9, 10, 11, 12]) from by decide]
  rw [d12]
  refine heldS_take (i := 13) (v := .bool true) p13 hsel f13 c13 (wanted_none g13) (fun X hX => exec_move e13 (by simp [eval_putT, size_putT, ha, ha1, ha2, ha4, ha6, ha8])) hS6 ?_
  rw [show (LR 22 [0, 1, 2, 3, 4, 5, 6, 7, 8, 9, 10, 11, 12]).setIfInBounds 13 true = (LR 22 [0, 1, 2, 3, 4, 5, 6, 7, 8, 9, 10, 11, 12, 13]) from by decide]
  rw [d13]
  refine heldS_take (i := 14) (v := .int .i64 40) p14 hsel f14 c14 (wanted_some g14 p13 d13 (by simp [size_putT, ha]) (by simp [eval_putT, size_putT, ha, ha1, ha2, ha4, ha6, ha8])) (fun X hX => exec_move e14 (by simp [eval_putT, size_putT, ha, ha1, ha2, ha4, ha6, ha8])) hS6 ?_
  rw [show (LR 22 [0, 1, 2, 3, 4, 5, 6, 7, 8, 9, 10, 11, 12, 13]).setIfInBounds 14 true = (LR 22 [0, 1, 2, 3, 4, 5, 6, 7, 8, 9, 10, 11, 12, 13, 14]) from by decide]
  rw [d14]
  refine heldS_take (i := 15) (v := .bool true) p15 hsel f15 c15 (wanted_some g15 p13 d13 (by simp [size_putT, ha]) (by simp [eval_putT, size_putT, ha, ha1, ha2, ha4, ha6, ha8])) (fun X hX => exec_eqlnum (n := 40) (m := 40) Tryd.underlying43 e15 (by simp [eval_putT, size_putT, ha, ha1, ha2, ha4, ha6, ha8]) rfl rfl) hS6 ?_
  rw [show (LR 22 [0, 1, 2, 3, 4, 5, 6, 7, 8, 9, 10, 11, 12, 13, 14]).setIfInBounds 15 true = (LR 22 [0, 1, 2, 3, 4, 5, 6, 7, 8, 9, 10, 11, 12, 13, 14, 15]) from by decide]
  rw [d15]
  refine heldS_take (i := 16) (v := .bool true) p16 hsel f16 c16 (wanted_none g16) (fun X hX => exec_pick (b := true) (v := .bool true) e16 (by simp [eval_putT, size_putT, ha, ha1, ha2, ha4, ha6, ha8]) (by simp [eval_putT, size_putT, ha, ha1, ha2, ha4, ha6, ha8]) rfl) hS6 ?_
  rw [show (LR 22 [0, 1, 2, 3, 4, 5, 6, 7, 8, 9, 10, 11, 12, 13, 14, 15]).setIfInBounds 16 true = (LR 22 [0, 1, 2, 3, 4, 5, 6, 7, 8, 9, 10, 11, 12, 13, 14, 15, 16]) from by decide]
  rw [d16]
  refine heldS_take (i := 17) (v := .bool true) p17 hsel f17 c17 (wanted_none g17) (fun X hX => exec_move e17 (by simp [eval_putT, size_putT, ha, ha1, ha2, ha4, ha6, ha8])) hS6 ?_
  rw [show (LR 22 [0, 1, 2, 3, 4, 5, 6, 7, 8, 9, 10, 11, 12, 13, 14, 15, 16]).setIfInBounds 17 true = (LR 22 [0, 1, 2, 3, 4, 5, 6, 7, 8, 9, 10, 11, 12, 13, 14, 15, 16, 17]) from by decide]
  rw [d17]
  refine heldS_take (i := 18) (v := .int .i64 40) p18 hsel f18 c18 (wanted_some g18 p17 d17 (by simp [size_putT, ha]) (by simp [eval_putT, size_putT, ha, ha1, ha2, ha4, ha6, ha8])) (fun X hX => exec_move e18 (by simp [eval_putT, size_putT, ha, ha1, ha2, ha4, ha6, ha8])) hS6 ?_
  rw [show (LR 22 [0, 1, 2, 3, 4, 5, 6, 7, 8, 9, 10, 11, 12, 13, 14, 15, 16, 17]).setIfInBounds 18 true = (LR 22 [0, 1, 2, 3, 4, 5, 6, 7, 8, 9, 10, 11, 12, 13, 14, 15, 16, 17, 18]) from by decide]
  rw [d18]
  refine heldS_take (i := 19) (v := .bool true) p19 hsel f19 c19 (wanted_some g19 p17 d17 (by simp [size_putT, ha]) (by simp [eval_putT, size_putT, ha, ha1, ha2, ha4, ha6, ha8])) (fun X hX => exec_eqlnum (n := 40) (m := 40) Tryd.underlying43 e19 (by simp [eval_putT, size_putT, ha, ha1, ha2, ha4, ha6, ha8]) rfl rfl) hS6 ?_
  rw [show (LR 22 [0, 1, 2, 3, 4, 5, 6, 7, 8, 9, 10, 11, 12, 13, 14, 15, 16, 17, 18]).setIfInBounds 19 true = (LR 22 [0, 1, 2, 3, 4, 5, 6, 7, 8, 9, 10, 11, 12, 13, 14, 15, 16, 17, 18, 19]) from by decide]
  rw [d19]
  refine heldS_take (i := 20) (v := .bool true) p20 hsel f20 c20 (wanted_none g20) (fun X hX => exec_pick (b := true) (v := .bool true) e20 (by simp [eval_putT, size_putT, ha, ha1, ha2, ha4, ha6, ha8]) (by simp [eval_putT, size_putT, ha, ha1, ha2, ha4, ha6, ha8]) rfl) hS6 ?_
  rw [show (LR 22 [0, 1, 2, 3, 4, 5, 6, 7, 8, 9, 10, 11, 12, 13, 14, 15, 16, 17, 18, 19]).setIfInBounds 20 true = (LR 22 [0, 1, 2, 3, 4, 5, 6, 7, 8, 9, 10, 11, 12, 13, 14, 15, 16, 17, 18, 19, 20]) from by decide]
  rw [d20]
  refine heldS_take (i := 21) (v := .bool true) p21 hsel f21 c21 (wanted_none g21) (fun X hX => exec_assign e21 (by simp [eval_putT, size_putT, ha, ha1, ha2, ha4, ha6, ha8])) hS6 ?_
  rw [show (LR 22 [0, 1, 2, 3, 4, 5, 6, 7, 8, 9, 10, 11, 12, 13, 14, 15, 16, 17, 18, 19, 20]).setIfInBounds 21 true = (LR 22 [0, 1, 2, 3, 4, 5, 6, 7, 8, 9, 10, 11, 12, 13, 14, 15, 16, 17, 18, 19, 20, 21]) from by decide]
  rw [d21]
  exact wpAnyH_done rN ⟨rfl, fin X q⟩ _
set_option maxRecDepth 100000 in
set_option maxHeartbeats 2000000 in
theorem names_any (w : World) (hT : Tabs w) :
    Calls Tryd.prog 4 #[] w fun e w' => e = .returned (.bool true) ∧ Below w.heap.size w w' := by
  have HT := Lib.hid hT
  have zh := (zero_of_info zero_hash).1
  go_enter Tryd.func4, Tryd.ntmps4
  go_wp2_with fail
  refine (parse_abc w).mono ?_
  rintro e w1 ⟨rfl, hB1⟩
  have N1 := Lib.hid (At.new 38 w1 (nums .u8 32 fun _ => 0))
  have X1 : Below w.heap.size w ((w1.alloc (.cells (nums .u8 32 fun _ => 0) 38)).setRow w1.heap.size (nums .u8 32 (bf (sha [97, 98, 99])))) := below_row (hB1.alloc hB1.size _) hB1.size _
  go_wp2_with (first | (refine store_hash N1.out rfl rfl rfl rfl ?_) | fail)
  have P1 : At 38 ((w1.alloc (.cells (nums .u8 32 fun _ => 0) 38)).setRow w1.heap.size (nums .u8 32 (bf (sha [97, 98, 99])))) w1.heap.size (nums .u8 32 (bf (sha [97, 98, 99]))) := N1.out.row
  have C1 := Lib.hid (And.intro P1 (And.intro X1 (hT.below hT.lt X1)))
  have G1 := Lib.hid P1.lt
  generalize (w1.alloc (.cells (nums .u8 32 fun _ => 0) 38)).setRow w1.heap.size (nums .u8 32 (bf (sha [97, 98, 99]))) = w2 at *
  obtain ⟨g, hg⟩ : ∃ g, w1.heap.size = g := ⟨_, rfl⟩
  rw [hg] at C1 G1 ⊢
  have ST := Lib.hid (show ∀ X Y, (At 38 X g (nums .u8 32 (bf (sha [97, 98, 99]))) ∧ Below w.heap.size w X ∧ Tabs X) → Below X.heap.size X Y → (At 38 Y g (nums .u8 32 (bf (sha [97, 98, 99]))) ∧ Below w.heap.size w Y ∧ Tabs Y) from fun X Y ⟨a, b, d⟩ hb =>
    ⟨At.below a a.lt hb, b.trans (hb.mono b.size), d.below d.lt hb⟩)
  clear hB1 N1 X1 P1 hg hT HT G1
  -- the three texts that are none
  refine (parse_none _ (fun h => absurd (h.2 0 (by decide)) (by decide +kernel)) w2).mono ?_
  rintro e w3 ⟨rfl, hB3⟩
  have C3 := Lib.hid (ST.out _ _ C1.out hB3)
  have N3 := Lib.hid (At.new 38 w3 (nums .u8 32 fun _ => 0))
  clear hB3 C1
  unfold NoHash
  go_wp2_with (first | (refine store_hash N3.out rfl rfl rfl rfl ?_) | fail)
  have C4 := Lib.hid (ST.out _ _ C3.out (show Below w3.heap.size w3 ((w3.alloc (.cells (nums .u8 32 fun _ => 0) 38)).setRow w3.heap.size (nums .u8 32 fun _ => 0)) from below_row ((Below.refl _ w3).alloc (Nat.le_refl _) _) (Nat.le_refl _) _))
  generalize (w3.alloc (.cells (nums .u8 32 fun _ => 0) 38)).setRow w3.heap.size (nums .u8 32 fun _ => 0) = w4 at *
  generalize w3.heap.size = g3 at *
  clear C3 N3
  refine (parse_none _ (fun h => absurd h.1 (by decide)) w4).mono ?_
  rintro e w5 ⟨rfl, hB5⟩
  have C5 := Lib.hid (ST.out _ _ C4.out hB5)
  have N5 := Lib.hid (At.new 38 w5 (nums .u8 32 fun _ => 0))
  clear hB5 C4
  unfold NoHash
  go_wp2_with (first | (refine store_hash N5.out rfl rfl rfl rfl ?_) | fail)
  have C6 := Lib.hid (ST.out _ _ C5.out (show Below w5.heap.size w5 ((w5.alloc (.cells (nums .u8 32 fun _ => 0) 38)).setRow w5.heap.size (nums .u8 32 fun _ => 0)) from below_row ((Below.refl _ w5).alloc (Nat.le_refl _) _) (Nat.le_refl _) _))
  generalize (w5.alloc (.cells (nums .u8 32 fun _ => 0) 38)).setRow w5.heap.size (nums .u8 32 fun _ => 0) = w6 at *
  generalize w5.heap.size = g5 at *
  clear C5 N5
  refine (parse_none _ (fun h => absurd (h.2 0 (by decide)) (by decide +kernel)) w6).mono ?_
  rintro e w7 ⟨rfl, hB7⟩
  have C7 := Lib.hid (ST.out _ _ C6.out hB7)
  have N7 := Lib.hid (At.new 38 w7 (nums .u8 32 fun _ => 0))
  clear hB7 C6
  unfold NoHash
  go_wp2_with (first | (refine store_hash N7.out rfl rfl rfl rfl ?_) | fail)
  have C8 := Lib.hid (ST.out _ _ C7.out (show Below w7.heap.size w7 ((w7.alloc (.cells (nums .u8 32 fun _ => 0) 38)).setRow w7.heap.size (nums .u8 32 fun _ => 0)) from below_row ((Below.refl _ w7).alloc (Nat.le_refl _) _) (Nat.le_refl _) _))
  have z8 : w7.heap.size + 1 = ((w7.alloc (.cells (nums .u8 32 fun _ => 0) 38)).setRow w7.heap.size (nums .u8 32 fun _ => 0)).heap.size := by simp
  generalize (w7.alloc (.cells (nums .u8 32 fun _ => 0) 38)).setRow w7.heap.size (nums .u8 32 fun _ => 0) = w8 at *
  obtain ⟨g7, hg7⟩ : ∃ g7, w7.heap.size = g7 := ⟨_, rfl⟩
  rw [hg7] at z8 ⊢
  have hcv := conv_three (g7 + 1) w8 z8
  rw [hcv]
  simp only [Result.andThen]
  rw [Oper.upon_value]
  go_wp2_with fail
  clear C7 N7 hcv
  refine (write_nil _ _ _ _).mono ?_
  rintro e wA ⟨rfl, hBA⟩
  have CA := Lib.hid (ST.out _ _ C8.out (((Below.refl _ w8).alloc (Nat.le_refl _) _).trans (hBA.mono (by simp))))
  clear hBA C8
  go_wp2_with fail
  refine region_names rfl rfl (by kernel_rfl) _ _ _ _ _ _ _ _ _ _ _ _ _ _ _ _ _ _ _ _ _ _ rfl rfl rfl rfl rfl rfl rfl rfl rfl rfl rfl rfl rfl rfl rfl rfl rfl rfl rfl rfl rfl rfl rfl rfl rfl rfl rfl rfl rfl rfl rfl rfl rfl rfl rfl rfl rfl rfl rfl rfl rfl rfl rfl rfl rfl rfl rfl rfl rfl rfl rfl rfl rfl rfl rfl rfl rfl rfl rfl rfl rfl rfl rfl rfl rfl rfl rfl rfl rfl rfl rfl rfl rfl rfl rfl rfl rfl rfl rfl rfl rfl rfl rfl rfl rfl rfl rfl rfl (by kernel_rfl) (by kernel_rfl) (by kernel_rfl) (by kernel_rfl) (by kernel_rfl) (by kernel_rfl) (by kernel_rfl) (by kernel_rfl) (by kernel_rfl) (by kernel_rfl) (by kernel_rfl) (by kernel_rfl) (by kernel_rfl) (by kernel_rfl) (by kernel_rfl) (by kernel_rfl) (by kernel_rfl) (by kernel_rfl) (by kernel_rfl) (by kernel_rfl) (by kernel_rfl) (by kernel_rfl) (by kernel_rfl) (by kernel_rfl) (by kernel_rfl) (by kernel_rfl) (by kernel_rfl) (by kernel_rfl) (by kernel_rfl) (by kernel_rfl) (by kernel_rfl) (by kernel_rfl) (by kernel_rfl) (by kernel_rfl) (by kernel_rfl) (by kernel_rfl) (by kernel_rfl) (by kernel_rfl) (by kernel_rfl) (by kernel_rfl) (by kernel_rfl) (by kernel_rfl) _ rfl g wA CA.out.2.2 CA.out.1 rfl rfl rfl rfl rfl ?_
  intro wB hBB
  have CB := Lib.hid (ST.out _ _ CA.out hBB)
  clear hBB CA
  have e1 := eq_hash (bf (sha []))
  go_wp2_with fail
  refine (alive_any wB CB.out.2.2).mono ?_
  rintro e wC ⟨rfl, hBC⟩
  have CC := Lib.hid (ST.out _ _ CB.out hBC)
  clear hBC CB
  go_wp2_with fail
  refine (hashed_true _ _ (by decide) str_long wC CC.out.2.2).mono ?_
  rintro e wD ⟨rfl, hBD⟩
  have CD := Lib.hid (ST.out _ _ CC.out hBD)
  clear hBD CC
  go_wp2_with fail
  refine (sum_nil wD CD.out.2.2).mono ?_
  rintro e wE ⟨rfl, hBE⟩
  have CE := Lib.hid (ST.out _ _ CD.out hBE)
  clear hBE CD
  go_wp2_with fail
  refine (of_none wE CE.out.2.2).mono ?_
  rintro e wF ⟨rfl, hBF⟩
  have CF := Lib.hid (ST.out _ _ CE.out hBF)
  clear hBF CE
  go_wp2_with fail
  refine (len_nil wF).mono ?_
  rintro e _ ⟨rfl, rfl⟩
  go_wp2_with fail
  refine (copy_nil wF).mono ?_
  rintro e _ ⟨rfl, rfl⟩
  go_wp2
  go_ret
  exact ⟨rfl, CF.out.2.1⟩
end Go.Proofs.YthjjlkoddmljbaaDoor
