/- The contract of Text. -/
import Derived.Test.YtmeamdfmcpkofaaDoorTRow
import Derived.Test.YtmeamdfmcpkofaaDoorS8
import Derived.OrdersHeld
import Derived.WalkSmall
set_option linter.unusedVariables false
set_option linter.unusedSimpArgs false
namespace Go.Proofs.YtmeamdfmcpkofaaDoor
open Go.RowKit Go.Shelf
/-- The text of bytes. -/
theorem conv_bys8 {B : Nat} {w : World} {A : Option Addr} {m c : Nat} {xs : List Int} (hb : Bys8 B w (.slice A m c) xs) : (convert 28 9 (.slice A m c)).run Tryd.prog w = .ok (.string (strOfNums xs)) w := by
  obtain ⟨hr, ⟨rfl, a, cap, e⟩ | ⟨b, off, cap, e, hB, hcs⟩⟩ := hb
  · cases e
    rw [run_convert_bytes_string w 28 9 5 _ 0 c Tryd.underlying28 Tryd.underlying5 Tryd.underlying9]
    cases A <;> simp [Conv.bytesToString, loadCells]
    all_goals rfl
  · cases e
    exact run_convert_bytes_arg w 28 5 Tryd.underlying28 Tryd.underlying5 b off _ c xs rfl hcs 9 Tryd.underlying9
def digs : ByteArray := ⟨#[48, 49, 50, 51, 52, 53, 54, 55, 56, 57, 97, 98, 99, 100, 101, 102]⟩
def dig (n : Int) : Int := ((digit n.toNat : Nat) : Int)
theorem dig_bd (n : Int) (h0 : 0 ≤ n) (h1 : n < 16) : 0 ≤ dig n ∧ dig n < 256 := by unfold dig digit; split <;> omega
theorem idx_digs (n : Nat) (h : n < 16) (w : World) : (Instr.index 9 (.string ⟨#[48, 49, 50, 51, 52, 53, 54, 55, 56, 57, 97, 98, 99, 100, 101, 102]⟩) (.int .u8 (n : Int))).run Tryd.prog w = .ok (.int .u8 (dig n)) w := by
  rcases n with _ | _ | _ | _ | _ | _ | _ | _ | _ | _ | _ | _ | _ | _ | _ | _ | n
  all_goals first | (exfalso; omega) | kernel_rfl
theorem eval_putT (a : Act) (d t : Nat) (v : Value) (h : d < a.tmps.size) : (a.put (some d) v).eval (.tmp t) = if t = d then v else a.eval (.tmp t) := by
  by_cases e : t = d
  · subst e; simp [Act.put, Act.eval, h]
  · rw [if_neg e]
    simp [Act.put, Act.eval, Ne.symm e]
theorem size_putT (a : Act) (d : Nat) (v : Value) : (a.put (some d) v).tmps.size = a.tmps.size := by simp [Act.put]
def LT (s : List Nat) : Array Bool := ((List.range 10).map fun i => s.contains i).toArray
def plainQ (Q : Exit → Act → World → Prop) : Exit → Act → World → Prop := fun e a w => e = .normal ∧ Q .normal a w
theorem exec_move {o : Oper} {a : Act} {x : Operand} {v : Value} {w : World} (ho : o.op = .move x) (hx : a.eval x = v) : (execOp a.eval o).run Tryd.prog w = .ok (.value v) w := by
  unfold execOp
  simp only [ho, hx]
  go_simp
theorem exec_shr4 {o : Oper} {a : Act} {x : Operand} {c : Int} {w : World} (ho : o.op = .binOp .shr 5 x (.const (.int .u64 4)) 58) (hx : a.eval x = .int .u8 c) (h0 : 0 ≤ c) (h1 : c < 256) : (execOp a.eval o).run Tryd.prog w = .ok (.value (.int .u8 (c / 16))) w := by
  have e : a.eval (.const (.int .u64 4)) = .int .u64 4 := rfl
  unfold execOp
  simp only [ho, hx, e]
  go_simp
theorem exec_and15 {o : Oper} {a : Act} {x : Operand} {c : Int} {w : World} (ho : o.op = .binOp .and 5 x (.const (.int .u8 15)) 5) (hx : a.eval x = .int .u8 c) (h0 : 0 ≤ c) (h1 : c < 256) : (execOp a.eval o).run Tryd.prog w = .ok (.value (.int .u8 (c % 16))) w := by
  have e : a.eval (.const (.int .u8 15)) = .int .u8 15 := rfl
  have h := u8_and15 c h0 h1
  unfold execOp
  simp only [ho, hx, e]
  go_simp
theorem exec_digs {o : Oper} {a : Act} {x : Operand} {c : Int} {w : World} (ho : o.op = .index 9 (.const (.string ⟨#[48, 49, 50, 51, 52, 53, 54, 55, 56, 57, 97, 98, 99, 100, 101, 102]⟩)) x) (hx : a.eval x = .int .u8 c) (h0 : 0 ≤ c) (h1 : c < 16) : (execOp a.eval o).run Tryd.prog w = .ok (.value (.int .u8 (dig c))) w := by
  have e : a.eval (.const (.string ⟨#[48, 49, 50, 51, 52, 53, 54, 55, 56, 57, 97, 98, 99, 100, 101, 102]⟩)) = .string ⟨#[48, 49, 50, 51, 52, 53, 54, 55, 56, 57, 97, 98, 99, 100, 101, 102]⟩ := rfl
  have h := idx_digs c.toNat (by omega) w
  rw [Int.toNat_of_nonneg h0] at h
  unfold execOp
  simp only [ho, hx, e, Sem.run_bind, h]
  rfl
theorem wp_bapp8 {w : World} {o : Oper} {a : Act} {K : Act → World → Prop} {Q : Exit → Act → World → Prop} (s x : Operand)
    (ho : o.op = .call { callee := .builtin .append, args := #[s, x], argTypes := #[28, 28] })
    (base : Nat) (v : Value) (ys : List Int) (hs : a.eval s = v) (hown : Own8 base w v ys) (B : Nat) (A : Option Addr) (m c : Nat) (xs : List Int) (hx : a.eval x = .slice A m c) (hb : Bys8 B w (.slice A m c) xs)
    (hlen : ys.length + xs.length ≤ 10000000000000) (hbase : base ≤ w.heap.size)
    (h : ∀ a' c' w', Own8 base w' (.slice a' (ys ++ xs).length c') (ys ++ xs) → Below base w w' → K (a.put o.dst (.slice a' (ys ++ xs).length c')) w') : o.wp Tryd.prog a w K Q := by
  obtain ⟨v', w', hrun, h2, h3⟩ := run_bapp8 base o.type w v ys hown B A m c xs hb hlen hbase
  obtain ⟨a', c', rfl⟩ := h2.form
  unfold Oper.wp execOp
  simp only [ho, resolve, invoke, builtin, Sem.run_bind, Sem.run_pure, Result.andThen_ok, List.map_toArray, List.map_cons, List.map_nil, hs, hx, hrun]
  exact h a' c' w' h2 h3
section
variable {P : Program} {ops : Array Oper} {Q : Exit → Act → World → Prop}
theorem heldT_take {i : Nat} {oi : Oper} {v : Value} {fuel : Nat} {listed : Array Bool} {a : Act} {w : World} (hi : ops[i]? = some oi) (hs : Region.noSelect ops = true) (hf : Region.free .any ops listed i = true) (hr : (Region.ready .any ops listed).contains i = true)
    (hg : oi.guard = none) (hrun : ∀ W, (execOp a.eval oi).run P W = .ok (.value v) W) (h : wpAnyH P .any ops (plainQ Q) (fun _ => True) fuel (listed.setIfInBounds i true) (a.put oi.dst v) w) : wpAnyH P .any ops (plainQ Q) (fun _ => True) (fuel + 1) listed a w :=
  wpAnyH_take hi hs hf hr (fun _ _ _ h => by cases h.1) (.inl ⟨by simp [Region.wanted, hg], fun W _ => hrun W⟩) trivial h
theorem heldT_one {S : World → Prop} {i : Nat} {o : Oper} {fuel : Nat} {listed : Array Bool} {a : Act} {w : World} (hi : ops[i]? = some o) (hr : Region.ready .any ops listed = [i]) (hg : o.guard = none)
    (h : o.wp P a w (fun a' w' => S w' ∧ wpAnyH P .any ops (plainQ Q) S fuel (listed.setIfInBounds i true) a' w') (plainQ Q)) : wpAnyH P .any ops (plainQ Q) S (fuel + 1) listed a w := by
  refine wpAnyH_all hr (by simp) fun j hj => ?_
  obtain rfl : j = i := by simpa using hj
  unfold wpOp
  simp only [hi]
  rw [if_pos (by simp [Region.wanted, hg])]
  exact .inl h
theorem wp_of_runT {o : Oper} {a : Act} {w w' : World} {K : Act → World → Prop} {v : Value} (hrun : (execOp a.eval o).run P w = .ok (.value v) w') (h : K (a.put o.dst v) w') : o.wp P a w K Q := by
  unfold Oper.wp; rw [hrun]; exact h
end
theorem exec_two {o : Oper} {a : Act} {i j : Operand} {x y : Int} {w : World} (ho : o.op = .buildSlice 28 2 #[(0, i), (1, j)]) (hx : a.eval i = .int .u8 x) (hy : a.eval j = .int .u8 y) : (execOp a.eval o).run Tryd.prog w = .ok (.value (.slice (some ⟨w.heap.size, 0, none⟩) 2 2)) (w.alloc (.cells #[.int .u8 x, .int .u8 y] 5)) := by
  unfold execOp
  simp only [ho, List.map_toArray, List.map_cons, List.map_nil, hx, hy]
  go_simp
theorem exec_assign {o : Oper} {a : Act} {x : Operand} {v : Value} {w : World} (ho : o.op = .assign x) (hx : a.eval x = v) : (execOp a.eval o).run Tryd.prog w = .ok (.value v) w := by
  unfold execOp
  simp only [ho, hx]
  go_simp
set_option maxHeartbeats 1000000 in
theorem region_digits {id : Nat} {Q : Exit → Act → World → Prop} {L0 : List Oper} {ops : Array Oper} (hops : L0.toArray = ops) (hlen : ops.size = 10) (hsel : Region.noSelect ops = true) (o0 o1 o2 o3 o4 o5 o6 o7 o8 o9 : Oper)
    (p0 : ops[0]? = some o0) (e0 : o0.op = .move (.tmp 3)) (d0 : o0.dst = some 11) (g0 : o0.guard = none)
    (p1 : ops[1]? = some o1) (e1 : o1.op = .move (.tmp 5)) (d1 : o1.dst = some 12) (g1 : o1.guard = none)
    (p2 : ops[2]? = some o2) (e2 : o2.op = .binOp .shr 5 (.tmp 12) (.const (.int .u64 4)) 58) (d2 : o2.dst = some 13) (g2 : o2.guard = none)
    (p3 : ops[3]? = some o3) (e3 : o3.op = .index 9 (.const (.string ⟨#[48, 49, 50, 51, 52, 53, 54, 55, 56, 57, 97, 98, 99, 100, 101, 102]⟩)) (.tmp 13)) (d3 : o3.dst = some 14) (g3 : o3.guard = none)
    (p4 : ops[4]? = some o4) (e4 : o4.op = .move (.tmp 5)) (d4 : o4.dst = some 15) (g4 : o4.guard = none)
    (p5 : ops[5]? = some o5) (e5 : o5.op = .binOp .and 5 (.tmp 15) (.const (.int .u8 15)) 5) (d5 : o5.dst = some 16) (g5 : o5.guard = none)
    (p6 : ops[6]? = some o6) (e6 : o6.op = .index 9 (.const (.string ⟨#[48, 49, 50, 51, 52, 53, 54, 55, 56, 57, 97, 98, 99, 100, 101, 102]⟩)) (.tmp 16)) (d6 : o6.dst = some 17) (g6 : o6.guard = none)
    (p7 : ops[7]? = some o7) (e7 : o7.op = .buildSlice 28 2 #[(0, .tmp 14), (1, .tmp 17)]) (d7 : o7.dst = some 18) (g7 : o7.guard = none)
    (p8 : ops[8]? = some o8) (e8 : o8.op = .call { callee := .builtin .append, args := #[.tmp 11, .tmp 18], argTypes := #[28, 28] }) (d8 : o8.dst = some 19) (g8 : o8.guard = none)
    (p9 : ops[9]? = some o9) (e9 : o9.op = .assign (.tmp 19)) (d9 : o9.dst = some 3) (g9 : o9.guard = none)
    (f0 : Region.free .any ops (LT []) 0 = true) (c0 : (Region.ready .any ops (LT [])).contains 0 = true)
    (f1 : Region.free .any ops (LT [0]) 1 = true) (c1 : (Region.ready .any ops (LT [0])).contains 1 = true)
    (f2 : Region.free .any ops (LT [0, 1]) 2 = true) (c2 : (Region.ready .any ops (LT [0, 1])).contains 2 = true)
    (f3 : Region.free .any ops (LT [0, 1, 2]) 3 = true) (c3 : (Region.ready .any ops (LT [0, 1, 2])).contains 3 = true)
    (f4 : Region.free .any ops (LT [0, 1, 2, 3]) 4 = true) (c4 : (Region.ready .any ops (LT [0, 1, 2, 3])).contains 4 = true)
    (f5 : Region.free .any ops (LT [0, 1, 2, 3, 4]) 5 = true) (c5 : (Region.ready .any ops (LT [0, 1, 2, 3, 4])).contains 5 = true)
    (f6 : Region.free .any ops (LT [0, 1, 2, 3, 4, 5]) 6 = true) (c6 : (Region.ready .any ops (LT [0, 1, 2, 3, 4, 5])).contains 6 = true)
    (r7 : Region.ready .any ops (LT [0, 1, 2, 3, 4, 5, 6]) = [7])
    (r8 : Region.ready .any ops (LT [0, 1, 2, 3, 4, 5, 6, 7]) = [8])
    (r9 : Region.ready .any ops (LT [0, 1, 2, 3, 4, 5, 6, 7, 8]) = [9])
    (r10 : Region.ready .any ops (LT [0, 1, 2, 3, 4, 5, 6, 7, 8, 9]) = [])
    (a : Act) (ha : a.tmps.size = 23) (A : Option Addr) (m c : Nat) (x : Int) (x0 : 0 ≤ x) (x1 : x < 256) (ys : List Int) (ha3 : a.eval (.tmp 3) = .slice A m c) (ha5 : a.eval (.tmp 5) = .int .u8 x)
    (W : World) (base : Nat) (hO : Own8 base W (.slice A m c) ys) (hbase : base ≤ W.heap.size) (hys : ys.length ≤ 1000)
    (fin : ∀ a' c' X, Own8 base X (.slice a' (ys ++ [dig (x / 16), dig (x % 16)]).length c') (ys ++ [dig (x / 16), dig (x % 16)]) → Below base W X → Q .normal ((((((((((a.put (some 11) (.slice A m c)).put (some 12) (.int .u8 x)).put (some 13) (.int .u8 (x / 16))).put (some 14) (.int .u8 (dig (x / 16)))).put (some 15) (.int .u8 x)).put (some 16) (.int .u8 (x % 16))).put (some 17) (.int .u8 (dig (x % 16)))).put (some 18) (.slice (some ⟨W.heap.size, 0, none⟩) 2 2)).put (some 19) (.slice a' (ys ++ [dig (x / 16), dig (x % 16)]).length c')).put (some 3) (.slice a' (ys ++ [dig (x / 16), dig (x % 16)]).length c')) X) :
    (Code.region id L0.toArray true).wp Tryd.prog Q a W := by
  subst hops
  refine wp_mono (Q := plainQ Q) (wp_region_held (S := fun _ => True) (by kernel_rfl) ?_) (fun e a w h => by obtain ⟨rfl, h⟩ := h; exact h)
  change wpAnyH _ _ _ _ _ L0.toArray.size _ _ W.drew
  rw [hlen]
  rw [show Array.replicate 10 false = LT [] from by decide]
  refine heldT_take (i := 0) p0 hsel f0 c0 g0 (fun X => exec_move e0 (v := .slice A m c) (by simp [eval_putT, size_putT, ha, ha3, ha5])) ?_
  rw [show (LT []).setIfInBounds 0 true = (LT [0]) from by decide]
  rw [d0]
  refine heldT_take (i := 1) p1 hsel f1 c1 g1 (fun X => exec_move e1 (v := .int .u8 x) (by simp [eval_putT, size_putT, ha, ha3, ha5])) ?_
  rw [show (LT [0]).setIfInBounds 1 true = (LT [0, 1]) from by decide]
  rw [d1]
  refine heldT_take (i := 2) p2 hsel f2 c2 g2 (fun X => exec_shr4 e2 (by simp [eval_putT, size_putT, ha, ha3, ha5]) x0 x1) ?_
  rw [show (LT [0, 1]).setIfInBounds 2 true = (LT [0, 1, 2]) from by decide]
  rw [d2]
  refine heldT_take (i := 3) p3 hsel f3 c3 g3 (fun X => exec_digs e3 (c := x / 16) (by simp [eval_putT, size_putT, ha, ha3, ha5]) (by omega) (by omega)) ?_
  rw [show (LT [0, 1, 2]).setIfInBounds 3 true = (LT [0, 1, 2, 3]) from by decide]
  rw [d3]
  refine heldT_take (i := 4) p4 hsel f4 c4 g4 (fun X => exec_move e4 (v := .int .u8 x) (by simp [eval_putT, size_putT, ha, ha3, ha5])) ?_
  rw [show (LT [0, 1, 2, 3]).setIfInBounds 4 true = (LT [0, 1, 2, 3, 4]) from by decide]
  rw [d4]
  refine heldT_take (i := 5) p5 hsel f5 c5 g5 (fun X => exec_and15 e5 (by simp [eval_putT, size_putT, ha, ha3, ha5]) x0 x1) ?_
  rw [show (LT [0, 1, 2, 3, 4]).setIfInBounds 5 true = (LT [0, 1, 2, 3, 4, 5]) from by decide]
  rw [d5]
  refine heldT_take (i := 6) p6 hsel f6 c6 g6 (fun X => exec_digs e6 (c := x % 16) (by simp [eval_putT, size_putT, ha, ha3, ha5]) (by omega) (by omega)) ?_
  rw [show (LT [0, 1, 2, 3, 4, 5]).setIfInBounds 6 true = (LT [0, 1, 2, 3, 4, 5, 6]) from by decide]
  rw [d6]
  refine heldT_one p7 r7 g7 ?_
  refine wp_of_runT (w' := W.drew.alloc (.cells #[.int .u8 (dig (x / 16)), .int .u8 (dig (x % 16))] 5)) (v := .slice (some ⟨W.heap.size, 0, none⟩) 2 2) (exec_two e7 (by simp [eval_putT, size_putT, ha, ha3, ha5]) (by simp [eval_putT, size_putT, ha, ha3, ha5])) ?_
  refine ⟨trivial, ?_⟩
  rw [show (LT [0, 1, 2, 3, 4, 5, 6]).setIfInBounds 7 true = (LT [0, 1, 2, 3, 4, 5, 6, 7]) from by decide]
  rw [d7]
  refine heldT_one p8 r8 g8 ?_
  have hd1 := dig_bd (x / 16) (by omega) (by omega)
  have hd2 := dig_bd (x % 16) (by omega) (by omega)
  have hb2 := bys8_alloc (T := 5) W.drew [dig (x / 16), dig (x % 16)] (by intro z hz; simp at hz; rcases hz with rfl | rfl <;> assumption) #[.int .u8 (dig (x / 16)), .int .u8 (dig (x % 16))] rfl 2 2 rfl (0, 0)
  have hB : Below W.heap.size W (W.drew.alloc (.cells #[.int .u8 (dig (x / 16)), .int .u8 (dig (x % 16))] 5)) := ((Below.refl _ W).drew).alloc (Nat.le_refl _) _
  refine wp_bapp8 (.tmp 11) (.tmp 18) e8 base _ ys (by simp [eval_putT, size_putT, ha, ha3, ha5]) (hO.below hB (Nat.le_refl _)) _ _ 2 2 [dig (x / 16), dig (x % 16)] (by simp [eval_putT, size_putT, ha, ha3, ha5]) hb2 (by simp; omega) (by simp; omega) ?_
  intro a' c' X hO2 hB2
  refine ⟨trivial, ?_⟩
  rw [show (LT [0, 1, 2, 3, 4, 5, 6, 7]).setIfInBounds 8 true = (LT [0, 1, 2, 3, 4, 5, 6, 7, 8]) from by decide]
  rw [d8]
  refine heldT_one p9 r9 g9 ?_
  refine wp_of_runT (w' := X) (exec_assign e9 (v := .slice a' (ys ++ [dig (x / 16), dig (x % 16)]).length c') (by simp [eval_putT, size_putT, ha, ha3, ha5])) ?_
  refine ⟨trivial, ?_⟩
  rw [show (LT [0, 1, 2, 3, 4, 5, 6, 7, 8]).setIfInBounds 9 true = (LT [0, 1, 2, 3, 4, 5, 6, 7, 8, 9]) from by decide]
  rw [d9]
  exact wpAnyH_done r10 ⟨rfl, fin a' c' X hO2 ((hB.mono hbase).trans (hB2.mono (Nat.le_refl _)))⟩ _
/-- The text of the first k bytes. -/
def tx (h : List Int) (k : Nat) : List Int := (List.range (2 * k)).map fun i => (digit (if i % 2 = 0 then (h.getD (i / 2) 0).toNat / 16 else (h.getD (i / 2) 0).toNat % 16) : Int)
theorem tx_all (h : List Int) : tx h 32 = texted h := rfl
theorem tx_length (h : List Int) (k : Nat) : (tx h k).length = 2 * k := by simp [tx]
theorem tx_succ {h : List Int} (hb : Bytes h) (k : Nat) : tx h k ++ [dig (bf h k / 16), dig (bf h k % 16)] = tx h (k + 1) := by
  have h0 := hb.get k
  unfold tx dig bf
  rw [show 2 * (k + 1) = 2 * k + 1 + 1 by omega, List.range_succ, List.range_succ]
  simp only [List.map_append, List.map_cons, List.map_nil, List.append_assoc, List.cons_append, List.nil_append]
  rw [if_pos (by omega), if_neg (by omega), show 2 * k / 2 = k by omega, show (2 * k + 1) / 2 = k by omega]
  rw [show (h.getD k 0 / 16).toNat = (h.getD k 0).toNat / 16 by omega, show (h.getD k 0 % 16).toNat = (h.getD k 0).toNat % 16 by omega]
theorem idx_hash (f : Nat → Int) (j : Nat) (hj : j < 32) (w : World) : (Instr.index 25 (.agg (nums .u8 32 f)) (.int .i64 (j : Int))).run Tryd.prog w = .ok (.int .u8 (f j)) w :=
  idx_nums _ 5 .u8 32 f j hj Tryd.underlying25 (by kernel_rfl) (by kernel_rfl) (by kernel_rfl) w
set_option maxRecDepth 100000 in
set_option maxHeartbeats 1000000 in
theorem text_any (h : List Int) (hb : Bytes h) (w : World) :
    Calls Tryd.prog 33 #[.agg (nums .u8 32 (bf h))] w fun e w' => e = .returned (.string (strOfNums (texted h))) ∧ Below w.heap.size w w' := by
  obtain ⟨i0, hi, hz0, hz1, hz2⟩ := parts8
  have HI0 := Lib.hid hi
  have HZ0 := Lib.hid hz0
  have HZ1 := Lib.hid hz1
  have HZ2 := Lib.hid hz2
  have HB := Lib.hid hb
  have H1 := Lib.hid (At.new 25 w (nums .u8 32 (bf h)))
  clear hi hz0 hz1 hz2 hb
  go_enter Tryd.func33, Tryd.ntmps33
  go_wp2_with (first | (at_make; refine wpList_make_own _ rfl _ _ 28 rfl (w.heap.size + 1) 5 i0 (.int .u8 0) 1 Tryd.underlying28 HI0.out HZ0.out HZ1.out .i64 .i64 _ 64 rfl rfl rfl (by rw [HZ2.out]; omega) (by unfold maxLen; omega) (by simp) ?_; intro w1 hO1 hG1; have HO1 := Lib.hid hO1; have HG1 := Lib.hid hG1; clear hO1 hG1; have H2 := Lib.hid (At.below H1.out (show w.heap.size < w.heap.size + 1 by omega) ((Below.refl _ _).grown HG1.out (by simp) (by simp)))) | (refine load_hash H2.out rfl rfl rfl ?_))
  have hO0 : Own8 (w.heap.size + 1) w1 (.slice (some ⟨w.heap.size + 1, 0, none⟩) 0 64) [] := ⟨by simp, by have := HO1.out; rw [World.size_alloc] at this; exact this⟩
  have hB0 : Below w.heap.size w w1 := ((Below.refl _ w).alloc (Nat.le_refl _) _).trans ((Below.refl _ _).grown HG1.out (by simp) (by simp))
  have hs0 : w.heap.size + 1 ≤ w1.heap.size := by have := HG1.out.size; rw [World.size_alloc] at this; exact this
  clear HO1 HG1 H2
  go_loopw [3, 8] (fun v i wr => ∃ k : Nat, k ≤ 32 ∧ i = .int .i64 k ∧ (∃ a c, v = .slice a (tx h k).length c) ∧ Own8 (w.heap.size + 1) wr v (tx h k) ∧ Below w.heap.size w wr ∧ w.heap.size + 1 ≤ wr.heap.size) (fun _ i _ => 32 - (intOf i).toNat)
  case atStart => exact ⟨0, by omega, rfl, ⟨_, _, rfl⟩, hO0, hB0, hs0⟩
  case round =>
    clear hO0 hB0 hs0
    obtain ⟨k, hk, rfl, ⟨a, c, rfl⟩, hO, hBw, hsz⟩ := hrel
    by_cases hlt : k < 32
    · have hi := idx_hash (bf h) k hlt
      have hb := HB.out.get k
      have TS := Lib.hid (tx_succ HB.out k)
      have TL := Lib.hid (tx_length h k)
      have b0 : 0 ≤ bf h k ∧ bf h k < 256 := hb
      generalize bf h k = x at *
      obtain ⟨x0, x1⟩ := b0
      clear hb
      have D1 : ∀ w, (Instr.index 9 (.string ⟨#[48, 49, 50, 51, 52, 53, 54, 55, 56, 57, 97, 98, 99, 100, 101, 102]⟩) (.int .u8 (x / 16))).run Tryd.prog w = .ok (.int .u8 (dig (x / 16))) w := fun w => by
        have := idx_digs (x / 16).toNat (by omega) w
        rwa [Int.toNat_of_nonneg (by omega)] at this
      have D2 : ∀ w, (Instr.index 9 (.string ⟨#[48, 49, 50, 51, 52, 53, 54, 55, 56, 57, 97, 98, 99, 100, 101, 102]⟩) (.int .u8 (x % 16))).run Tryd.prog w = .ok (.int .u8 (dig (x % 16))) w := fun w => by
        have := idx_digs (x % 16).toNat (by omega) w
        rwa [Int.toNat_of_nonneg (by omega)] at this
      have hand : bits .and .u8 x 15 = x % 16 := u8_and15 x x0 x1
      have DB := Lib.hid (And.intro (dig_bd (x / 16) (by omega) (by omega)) (dig_bd (x % 16) (by omega) (by omega)))
      have HO := Lib.hid hO
      have HW := Lib.hid hBw
      have HSZ := Lib.hid hsz
      clear hO hBw hsz
      go_wp2
      refine region_digits rfl rfl (by kernel_rfl) _ _ _ _ _ _ _ _ _ _ rfl rfl rfl rfl rfl rfl rfl rfl rfl rfl rfl rfl rfl rfl rfl rfl rfl rfl rfl rfl rfl rfl rfl rfl rfl rfl rfl rfl rfl rfl rfl rfl rfl rfl rfl rfl rfl rfl rfl rfl (by kernel_rfl) (by kernel_rfl) (by kernel_rfl) (by kernel_rfl) (by kernel_rfl) (by kernel_rfl) (by kernel_rfl) (by kernel_rfl) (by kernel_rfl) (by kernel_rfl) (by kernel_rfl) (by kernel_rfl) (by kernel_rfl) (by kernel_rfl) (by kernel_rfl) (by kernel_rfl) (by kernel_rfl) (by kernel_rfl) _ rfl a _ c x x0 x1 (tx h k) rfl rfl wr (w.heap.size + 1) HO.out HSZ.out (by rw [TL.out]; omega) ?_
      intro a' c' X hO2 hB2
      rw [TS.out] at hO2 ⊢
      have HO2 := Lib.hid hO2
      have HB2 := Lib.hid hB2
      have HL2 := Lib.hid (tx_length h (k + 1))
      clear hO2 hB2
      go_wp2
      go_roundw
      case rel => exact ⟨k + 1, by omega, by go_num, ⟨a', c', rfl⟩, HO2.out, HW.out.trans (HB2.out.mono (by omega)), Nat.le_trans HSZ.out HB2.out.size⟩
      case measure => simp [intOf]; omega
    · rw [show tx h k = tx h 32 by rw [show k = 32 by omega], tx_all] at hO ⊢
      have hcv := conv_bys8 hO.bys
      have HW := Lib.hid hBw
      clear hO hBw hsz
      go_wp2
      go_ret
      exact ⟨rfl, HW.out⟩
end Go.Proofs.YtmeamdfmcpkofaaDoor
