/- Joined: Num Plus Minus Bare. -/
import Derived.Test.YtbffmobjiiicoaaProg
import Derived.WalkKit
import Derived.WalkLawsBesides
import Derived.Laws.Rows
import Derived.Laws.Tables
import Derived.Deep.WholeRow
import Derived.Lib.Hide
import Derived.LoopTactic
import Derived.Deep.RegionWith
import Derived.Deep.QuietTactic
import Derived.BigQuiet
import Derived.WalkSmall
section
/- The document's own numbers: a sign and 200 bits, as they lie in memory, and what a row of bits says. -/
set_option linter.unusedVariables false
namespace Go.Proofs.Ytbffmobjiiicoaa.F1
open Go.RowKit
/-- The cells of a Num: the sign, then 200 numbers. -/
def num (neg : Bool) (f : Nat → Int) : Array Value := (Value.bool neg :: (List.range 200).map (fun i => Value.int .i64 (f i))).toArray
def zeroNum : Array Value := num false (fun _ => 0)
theorem info42 : (Try.prog.info? 66).map (fun i => (i.zero, i.size)) = some (some (.agg zeroNum), 201) := by kernel_rfl
theorem num_size (neg : Bool) (f : Nat → Int) : (num neg f).size = 201 := by simp [num]
/-- The row of a Num in block b. -/
def At (W : World) (b : Nat) (cs : Array Value) : Prop := W.heap[b]? = some (.cells cs 66 (0, 0))
theorem At.lt {W : World} {b : Nat} {cs : Array Value} (h : At W b cs) : b < W.heap.size := (Array.getElem?_eq_some_iff.1 h).1
theorem At.neg {W : World} {b : Nat} {neg : Bool} {f : Nat → Int} (h : At W b (num neg f)) : W.cell? ⟨b, 0, none⟩ = some (.bool neg) := by
  rw [cell_of_row W b 0 _ _ _ h]; simp [num]
theorem At.bit {W : World} {b : Nat} {neg : Bool} {f : Nat → Int} (h : At W b (num neg f)) {k : Nat} (hk : k < 200) : W.cell? ⟨b, 1 + k, none⟩ = some (.int .i64 (f k)) := by
  rw [cell_of_row W b (1 + k) _ _ _ h]; simp [num, Nat.add_comm 1 k, hk]
theorem At.free {W : World} {b : Nat} {cs : Array Value} (h : At W b cs) (j : Nat) : W.frozen? ⟨b, j, none⟩ = false := frozen_of_row W b j cs _ h
theorem num_set (neg : Bool) (f : Nat → Int) (k : Nat) (x : Int) (hk : k < 200) : (num neg f).setIfInBounds (1 + k) (.int .i64 x) = num neg (fun j => if j = k then x else f j) := by
  apply Array.ext_getElem?
  intro i
  rw [Array.getElem?_setIfInBounds]
  rcases i with _ | i
  · simp [num]
  · by_cases h : 1 + k = i + 1
    · have : i = k := by omega
      subst this
      simp [num, Nat.add_comm, hk]
    · have h2 : ¬ i = k := by omega
      rw [if_neg h]
      by_cases hi : i < 200
      · simp [num, hi, h2]
      · simp [num, hi]
theorem num_setNeg (neg : Bool) (f : Nat → Int) (b : Bool) : (num neg f).setIfInBounds 0 (.bool b) = num b f := by
  apply Array.ext_getElem?
  intro i
  rw [Array.getElem?_setIfInBounds]
  rcases i with _ | i
  · simp [num]
  · simp [num]
theorem At.set {W : World} {b : Nat} {neg : Bool} {f : Nat → Int} (h : At W b (num neg f)) {k : Nat} (hk : k < 200) (x : Int) : At (W.setCell ⟨b, 1 + k, none⟩ (.int .i64 x)) b (num neg (fun j => if j = k then x else f j)) := by
  have := heap_setCell_same W b (1 + k) _ _ (.int .i64 x) h
  rwa [num_set neg f k x hk] at this
theorem At.setNeg {W : World} {b : Nat} {neg : Bool} {f : Nat → Int} (h : At W b (num neg f)) (x : Bool) : At (W.setCell ⟨b, 0, none⟩ (.bool x)) b (num x f) := by
  have := heap_setCell_same W b 0 _ _ (.bool x) h
  rwa [num_setNeg neg f x] at this
theorem At.other {W : World} {b : Nat} {cs : Array Value} (h : At W b cs) {a : Addr} (v : Value) (hne : b ≠ a.block) : At (W.setCell a v) b cs := (heap_setCell_other W a b v hne).trans h
theorem At.alloc {W : World} {b : Nat} {cs : Array Value} (h : At W b cs) (o : Obj) : At (W.alloc o) b cs := by
  have : (W.alloc o).heap[b]? = W.heap[b]? := by
    show (W.heap.push o)[b]? = W.heap[b]?
    rw [Array.getElem?_push, if_neg (Nat.ne_of_lt h.lt)]
  exact this.trans h
theorem At.new (W : World) (cs : Array Value) : At (W.alloc (.cells cs 66)) W.heap.size cs := heap_alloc_new W _
theorem At.below {W W' : World} {B b : Nat} {cs : Array Value} (h : At W b cs) (hb : b < B) (hB : Below B W W') : At W' b cs := (hB.block b hb).trans h
theorem num_congr {neg : Bool} {f g : Nat → Int} (h : ∀ j, j < 200 → f j = g j) : num neg f = num neg g := by
  unfold num
  rw [List.map_congr_left (fun i hi => by rw [h i (by simpa using hi)])]
/-- Bit j of a number. -/
def bitf (n : Nat) (j : Nat) : Int := ((n / 2 ^ j % 2 : Nat) : Int)
def nb (neg : Bool) (n : Nat) : Array Value := num neg (bitf n)
/-- The first k bits of a number. -/
def firstBits (n k : Nat) (j : Nat) : Int := if j < k then bitf n j else 0
theorem firstBits_succ (n k : Nat) : (fun j => if j = k then bitf n k else firstBits n k j) = firstBits n (k + 1) := by
  funext j
  unfold firstBits
  by_cases h : j = k
  · subst h; simp
  · by_cases h2 : j < k
    · simp [h, h2, show j < k + 1 by omega]
    · simp [h, h2, show ¬ j < k + 1 by omega]
theorem num_one (neg : Bool) (f : Nat → Int) : (num neg f).all (·.oneCell') = true := by
  rw [Array.all_eq_true_iff_forall_mem]
  intro v hv
  simp only [num, List.mem_toArray, List.mem_cons, List.mem_map] at hv
  rcases hv with rfl | ⟨i, _, rfl⟩ <;> rfl
theorem size42 (neg : Bool) (f : Nat → Int) : (Try.prog.info? 66).map (·.size) = some (num neg f).size := by
  rw [num_size]; exact (zero_of_info info42).2
/-- A whole Num is read. -/
theorem load_num {ops : Array Oper} {rest : List Oper} {o : Oper} {a : Act} {w : World} {Q : Exit → Act → World → Prop} {x : Operand} {g : Nat} {neg : Bool} {f : Nat → Int} (hg : At w g (num neg f))
    (hgd : o.guard = none) (ho : o.op = .load 66 x) (hx : a.eval x = .pointer (some ⟨g, 0, none⟩))
    (h : wpList Try.prog ops Q rest (a.put o.dst (.agg (num neg f))) w) : wpList Try.prog ops Q (o :: rest) a w :=
  wpList_load_row hgd 66 x ho g hx _ _ _ _ hg Try.underlying66 rfl (size42 neg f) h
/-- A whole Num is written over another. -/
theorem store_num {ops : Array Oper} {rest : List Oper} {o : Oper} {a : Act} {w : World} {Q : Exit → Act → World → Prop} {x y : Operand} {g : Nat} {neg neg' : Bool} {f f' : Nat → Int} (hg : At w g (num neg' f'))
    (hgd : o.guard = none) (ho : o.op = .store 66 x y) (hx : a.eval x = .pointer (some ⟨g, 0, none⟩)) (hy : a.eval y = .agg (num neg f))
    (h : wpList Try.prog ops Q rest (a.put o.dst undef) (w.setRow g (num neg f))) : wpList Try.prog ops Q (o :: rest) a w :=
  wpList_store_row hgd 66 x y ho g (num neg f) hx hy _ _ hg (size42 neg f) (by rw [num_size, num_size]) (num_one neg f) h
theorem At.row {W : World} {b : Nat} {cs cs' : Array Value} (h : At W b cs) : At (W.setRow b cs') b cs' := setRow_heap W b cs cs' _ _ h
theorem At.rowOther {W : World} {b g : Nat} {cs : Array Value} (h : At W b cs) (cs' : Array Value) (hne : b ≠ g) : At (W.setRow g cs') b cs := (setRow_other W g b cs' hne).trans h
theorem below_row {B : Nat} {w W : World} (h : Below B w W) {g : Nat} (hg : B ≤ g) (cs : Array Value) : Below B w (W.setRow g cs) :=
  ⟨h.os, h.tape, h.output, by simpa using h.size, fun k hk => (setRow_other W g k cs (by omega)).trans (h.block k hk)⟩
/-- The same two as steps of a statement that leaves its order open. -/
theorem step_load_num {ops : Array Oper} {o : Oper} {a : Act} {w : World} {K : Act → World → Prop} {Q : Exit → Act → World → Prop} {E : Prop} {x : Operand} {g : Nat} {neg : Bool} {f : Nat → Int} (hat : At w g (num neg f))
    (hg : o.guard = none) (hop : o.op = .load 66 x) (hx : a.eval x = .pointer (some ⟨g, 0, none⟩)) (hK : K (a.put o.dst (.agg (num neg f))) w) :
    if Region.wanted o (yielded ops a.tmps) = true then Oper.wp Try.prog o a w K Q else E := by
  have hw : Region.wanted o (yielded ops a.tmps) = true := by simp [Region.wanted, hg]
  rw [if_pos hw]
  exact wp_load_row 66 x hop g hx _ _ _ _ hat Try.underlying66 rfl (size42 neg f) hK
theorem step_store_num {ops : Array Oper} {o : Oper} {a : Act} {w : World} {K : Act → World → Prop} {Q : Exit → Act → World → Prop} {E : Prop} {x y : Operand} {g : Nat} {neg neg' : Bool} {f f' : Nat → Int} (hat : At w g (num neg' f'))
    (hg : o.guard = none) (hop : o.op = .store 66 x y) (hx : a.eval x = .pointer (some ⟨g, 0, none⟩)) (hy : a.eval y = .agg (num neg f)) (hK : K (a.put o.dst undef) (w.setRow g (num neg f))) :
    if Region.wanted o (yielded ops a.tmps) = true then Oper.wp Try.prog o a w K Q else E := by
  have hw : Region.wanted o (yielded ops a.tmps) = true := by simp [Region.wanted, hg]
  rw [if_pos hw]
  exact wp_store_row 66 x y hop g (num neg f) hx hy _ _ hat (size42 neg f) (by rw [num_size, num_size]) (num_one neg f) hK
/-- A new Num variable that is given a value at once: the world behind it, under a name of its own. -/
theorem fresh (w1 : World) (neg : Bool) (f : Nat → Int) : ∃ w2, (w1.alloc (.cells zeroNum 66)).setRow w1.heap.size (num neg f) = w2 ∧ At w2 w1.heap.size (num neg f) ∧ (∀ b cs, At w1 b cs → At w2 b cs) ∧ Below w1.heap.size w1 w2 :=
  ⟨_, rfl, (At.new w1 zeroNum).row, fun b cs h => (h.alloc _).rowOther _ (Nat.ne_of_lt h.lt), below_row ((Below.refl _ w1).alloc (Nat.le_refl _) _) (Nat.le_refl _) _⟩
theorem built42 : Try.prog.built 66 [] = some zeroNum := by kernel_rfl
/-- 'Num{}'. -/
theorem build_num {ops : Array Oper} {rest : List Oper} {o : Oper} {a : Act} {w : World} {Q : Exit → Act → World → Prop}
    (hgd : o.guard = none) (ho : o.op = .build 66 #[]) (h : wpList Try.prog ops Q rest (a.put o.dst (.agg zeroNum)) w) : wpList Try.prog ops Q (o :: rest) a w := by
  have e : ((#[] : Array (Nat × Operand)).map fun (i, x) => (i, a.eval x)).toList = [] := by simp
  refine wpList_build hgd 66 #[] ho ?_ ?_
  · rw [e, built42]; rfl
  · rw [e, built42]; exact h
theorem zero_first (n : Nat) : zeroNum = num false (firstBits n 0) := num_congr fun j _ => by simp [firstBits]
theorem all_first {n k : Nat} (h : n < 2 ^ k) (hk : k ≤ 200) : num false (firstBits n k) = nb false n := num_congr fun j _ => by
  unfold firstBits
  split
  · rfl
  · rename_i hj
    have : n < 2 ^ j := Nat.lt_of_lt_of_le h (Nat.pow_le_pow_right (by omega) (by omega))
    simp [bitf, Nat.div_eq_of_lt this]
theorem word_bit (n k : Nat) (h1 : n ≤ 18446744073709551615) : wrap64 (bits BinOp.and IntKind.u64 ((n : Int) / 2 ^ k) 1) = bitf n k := by
  have e : (n : Int) / 2 ^ k = ((n / 2 ^ k : Nat) : Int) := by simp
  have hlt : n / 2 ^ k < 18446744073709551616 := Nat.lt_of_le_of_lt (Nat.div_le_self _ _) (by omega)
  have h := bits_and_u64_nat (n / 2 ^ k) 1 hlt (by omega)
  rw [Nat.and_one_is_mod] at h
  rw [e]
  have h' : bits BinOp.and IntKind.u64 ((n / 2 ^ k : Nat) : Int) 1 = ((n / 2 ^ k % 2 : Nat) : Int) := h
  rw [h']
  unfold wrap64 bitf
  have : n / 2 ^ k % 2 < 2 := Nat.mod_lt _ (by omega)
  omega
set_option maxRecDepth 10000 in
set_option maxHeartbeats 400000 in
theorem of_any (n : Nat) (w : World) (h1 : n ≤ 18446744073709551615) :
    Calls Try.prog 23 #[.int .u64 n] w fun e w' => e = .returned (.agg (nb false n)) ∧ Below w.heap.size w w' := by
  have hz := (zero_of_info info42).1
  go_enter Try.func23, Try.ntmps23
  go_wp2
  go_loopw [4] (fun i wr => ∃ k : Nat, k ≤ 64 ∧ i = .int .i64 k ∧ At wr (w.heap.size + 1) (num false (firstBits n k)) ∧ At wr w.heap.size (num false (fun _ => 0)) ∧ Below w.heap.size w wr) (fun i _ => 64 - (intOf i).toNat)
  case atStart =>
    refine ⟨0, by omega, rfl, ?_, (At.new w _).alloc _, ((Below.refl _ w).alloc (Nat.le_refl _) _).alloc (by simp) _⟩
    rw [← zero_first]
    have := At.new (w.alloc (.cells zeroNum 66)) zeroNum
    rwa [World.size_alloc] at this
  case round =>
    obtain ⟨k, hk, rfl, hx, hr, hB⟩ := hrel
    by_cases hlt : k < 64
    · have hc := hx.bit (k := k) (by omega)
      have hf := hx.free (1 + k)
      have HX := Lib.hid hx
      have HR := Lib.hid hr
      clear hx hr
      go_wp2
      go_roundw
      case rel =>
        rw [word_bit n k h1]
        refine ⟨k + 1, by omega, by go_num, ?_, HR.out.other _ (by simp), hB.setCell (p := ⟨w.heap.size + 1, 1 + k, none⟩) (by simp) _⟩
        have := HX.out.set (k := k) (by omega) (bitf n k)
        rwa [firstBits_succ] at this
      case measure => simp [intOf]; omega
    · have e64 : k = 64 := by omega
      subst e64
      have ef : num false (firstBits n 64) = num false (bitf n) := all_first (by omega) (by omega)
      rw [ef] at hx
      have HX := Lib.hid hx
      have HR := Lib.hid hr
      clear hx hr ef
      go_wp2_with (first | (refine load_num HX.out rfl rfl rfl ?_) | (refine store_num HR.out rfl rfl rfl rfl ?_))
      exact bodyPost_ret (v := .agg (nb false n)) (results_cell_row rfl _ _ w.heap.size _ _ _ _ rfl HR.out.row Try.underlying66 rfl (size42 _ _)) rfl ⟨rfl, below_row hB (Nat.le_refl _) _⟩
end Go.Proofs.Ytbffmobjiiicoaa.F1
end
section
/- The contract of the document's plus: the sum of two rows of bits, as long as it has 200 bits at most. -/
set_option linter.unusedVariables false
namespace Go.Proofs.Ytbffmobjiiicoaa.F1
open Go.RowKit
theorem At.drewN {W : World} {b : Nat} {cs : Array Value} (h : At W b cs) (n : Nat) : At (W.drewN n) b cs := h
theorem bitf_bd (n k : Nat) : 0 ≤ bitf n k ∧ bitf n k ≤ 1 := by
  have : n / 2 ^ k % 2 < 2 := Nat.mod_lt _ (by omega)
  unfold bitf; omega
theorem div_pow_succ (n k : Nat) : n / 2 ^ (k + 1) = n / 2 ^ k / 2 := by rw [Nat.pow_succ, Nat.div_div_eq_div_mul]
/-- One place of a sum. -/
theorem plus_step {a b s k c : Nat} (h : s / 2 ^ k = a / 2 ^ k + b / 2 ^ k + c) :
    (bitf a k + bitf b k + (c : Int)) % 2 = bitf s k ∧ ∃ c' : Nat, (bitf a k + bitf b k + (c : Int)) / 2 = (c' : Int) ∧ (c ≤ 1 → c' ≤ 1) ∧ s / 2 ^ (k + 1) = a / 2 ^ (k + 1) + b / 2 ^ (k + 1) + c' := by
  unfold bitf
  rw [div_pow_succ, div_pow_succ, div_pow_succ]
  generalize a / 2 ^ k = x at *
  generalize b / 2 ^ k = y at *
  generalize s / 2 ^ k = z at *
  subst h
  refine ⟨by omega, (x % 2 + y % 2 + c) / 2, by omega, by omega, by omega⟩
set_option maxRecDepth 10000 in
set_option maxHeartbeats 1000000 in
theorem plus_any (na nc : Bool) (a b : Nat) (hab : a + b < 2 ^ 200) (w : World) :
    Calls Try.prog 21 #[.agg (nb na a), .agg (nb nc b)] w fun e w' => e = .returned (.agg (nb false (a + b))) ∧ Below w.heap.size w w' := by
  have hz := (zero_of_info info42).1
  have HAB := Lib.hid hab
  clear hab
  go_enter Try.func21, Try.ntmps21
  go_wp2
  go_loopw [6, 7] (fun cv i wr => ∃ k c : Nat, k ≤ 200 ∧ c ≤ 1 ∧ Hid ((a + b) / 2 ^ k = a / 2 ^ k + b / 2 ^ k + c) ∧ cv = .int .i64 c ∧ i = .int .i64 k ∧ At wr w.heap.size (num na (bitf a)) ∧ At wr (w.heap.size + 1) (num nc (bitf b)) ∧ At wr (w.heap.size + 1 + 1) (num false (fun _ => 0)) ∧ At wr (w.heap.size + 1 + 1 + 1) (num false (firstBits (a + b) k)) ∧ Below w.heap.size w wr) (fun _ i _ => 200 - (intOf i).toNat)
  case atStart =>
    have b1 := At.new w (nb na a)
    have b2 := At.new (w.alloc (.cells (nb na a) 66)) (nb nc b)
    have b3 := At.new ((w.alloc (.cells (nb na a) 66)).alloc (.cells (nb nc b) 66)) zeroNum
    have b4 := At.new (((w.alloc (.cells (nb na a) 66)).alloc (.cells (nb nc b) 66)).alloc (.cells zeroNum 66)) zeroNum
    simp only [World.size_alloc] at b2 b3 b4
    exact ⟨0, 0, by omega, by omega, Lib.hid (by simp), rfl, rfl, ((b1.alloc _).alloc _).alloc _, (b2.alloc _).alloc _, b3.alloc _, by rw [← zero_first]; exact b4, ((((Below.refl _ w).alloc (Nat.le_refl _) _).alloc (by simp) _).alloc (by simp; omega) _).alloc (by simp; omega) _⟩
  case round =>
    obtain ⟨k, c, hk, hc, hs, rfl, rfl, h1, h2, h3, h4, hB⟩ := hrel
    by_cases hlt : k < 200
    · have c1 := h1.bit (k := k) hlt
      have c2 := h2.bit (k := k) hlt
      have c4 := h4.bit (k := k) hlt
      have f4 := h4.free (1 + k)
      obtain ⟨x0, x1⟩ := bitf_bd a k
      obtain ⟨y0, y1⟩ := bitf_bd b k
      have H1 := Lib.hid h1
      have H2 := Lib.hid h2
      have H3 := Lib.hid h3
      have H4 := Lib.hid h4
      clear h1 h2 h3 h4
      go_wp2
      go_quiet (fail)
      go_wp2
      go_roundw
      case rel =>
        obtain ⟨e1, c', e2, e3, e4⟩ := plus_step hs.out
        rw [e1, e2]
        refine ⟨k + 1, c', by omega, e3 hc, Lib.hid e4, rfl, by go_num, (H1.out.drewN nq).other _ (by dsimp only; omega), (H2.out.drewN nq).other _ (by dsimp only; omega), (H3.out.drewN nq).other _ (by dsimp only; omega), ?_, (below_drewN hB nq).setCell (p := ⟨w.heap.size + 1 + 1 + 1, 1 + k, none⟩) (by simp; omega) _⟩
        have := (H4.out.drewN nq).set (k := k) hlt (bitf (a + b) k)
        rwa [firstBits_succ] at this
      case measure => simp [intOf]; omega
    · have ek : k = 200 := by omega
      subst ek
      have ef : num false (firstBits (a + b) 200) = num false (bitf (a + b)) := all_first HAB.out (by omega)
      rw [ef] at h4
      have H3 := Lib.hid h3
      have H4 := Lib.hid h4
      clear h1 h2 h3 h4 ef
      go_wp2_with (first | (refine load_num H4.out rfl rfl rfl ?_) | (refine store_num H3.out rfl rfl rfl rfl ?_))
      exact bodyPost_ret (v := .agg (nb false (a + b))) (results_cell_row rfl _ _ (w.heap.size + 1 + 1) _ _ _ _ rfl H3.out.row Try.underlying66 rfl (size42 _ _)) rfl ⟨rfl, below_row hB (by omega) _⟩
end Go.Proofs.Ytbffmobjiiicoaa.F1
end
section
/- The contract of the document's minus: the difference of two rows of bits of which the second is not greater. -/
set_option linter.unusedVariables false
namespace Go.Proofs.Ytbffmobjiiicoaa.F1
open Go.RowKit
/-- One place of a difference. -/
theorem minus_step {a b s k c : Nat} (h : s / 2 ^ k + b / 2 ^ k + c = a / 2 ^ k) (hc : c ≤ 1) :
    (bitf a k - bitf b k - (c : Int) < 0 → bitf a k - bitf b k - (c : Int) + 2 = bitf s k ∧ s / 2 ^ (k + 1) + b / 2 ^ (k + 1) + 1 = a / 2 ^ (k + 1)) ∧
    (¬ bitf a k - bitf b k - (c : Int) < 0 → bitf a k - bitf b k - (c : Int) = bitf s k ∧ s / 2 ^ (k + 1) + b / 2 ^ (k + 1) + 0 = a / 2 ^ (k + 1)) := by
  unfold bitf
  rw [div_pow_succ, div_pow_succ, div_pow_succ]
  generalize a / 2 ^ k = x at *
  generalize b / 2 ^ k = y at *
  generalize s / 2 ^ k = z at *
  subst h
  constructor
  · intro hn
    constructor <;> omega
  · intro hn
    constructor <;> omega
set_option maxRecDepth 10000 in
set_option maxHeartbeats 1000000 in
theorem minus_any (na nc : Bool) (a b : Nat) (hab : b ≤ a ∧ a < 2 ^ 200) (w : World) :
    Calls Try.prog 29 #[.agg (nb na a), .agg (nb nc b)] w fun e w' => e = .returned (.agg (nb false (a - b))) ∧ Below w.heap.size w w' := by
  have hz := (zero_of_info info42).1
  have HAB := Lib.hid hab
  clear hab
  go_enter Try.func29, Try.ntmps29
  go_wp2
  go_loopw [6, 7] (fun cv i wr => ∃ k c : Nat, k ≤ 200 ∧ c ≤ 1 ∧ Hid ((a - b) / 2 ^ k + b / 2 ^ k + c = a / 2 ^ k) ∧ cv = .int .i64 c ∧ i = .int .i64 k ∧ At wr w.heap.size (num na (bitf a)) ∧ At wr (w.heap.size + 1) (num nc (bitf b)) ∧ At wr (w.heap.size + 1 + 1) (num false (fun _ => 0)) ∧ At wr (w.heap.size + 1 + 1 + 1) (num false (firstBits (a - b) k)) ∧ Below w.heap.size w wr) (fun _ i _ => 200 - (intOf i).toNat)
  case atStart =>
    have b1 := At.new w (nb na a)
    have b2 := At.new (w.alloc (.cells (nb na a) 66)) (nb nc b)
    have b3 := At.new ((w.alloc (.cells (nb na a) 66)).alloc (.cells (nb nc b) 66)) zeroNum
    have b4 := At.new (((w.alloc (.cells (nb na a) 66)).alloc (.cells (nb nc b) 66)).alloc (.cells zeroNum 66)) zeroNum
    simp only [World.size_alloc] at b2 b3 b4
    exact ⟨0, 0, by omega, by omega, Lib.hid (by simp; have := HAB.out.1; omega), rfl, rfl, ((b1.alloc _).alloc _).alloc _, (b2.alloc _).alloc _, b3.alloc _, by rw [← zero_first]; exact b4, ((((Below.refl _ w).alloc (Nat.le_refl _) _).alloc (by simp) _).alloc (by simp; omega) _).alloc (by simp; omega) _⟩
  case round =>
    obtain ⟨k, c, hk, hc, hs, rfl, rfl, h1, h2, h3, h4, hB⟩ := hrel
    by_cases hlt : k < 200
    · have c1 := h1.bit (k := k) hlt
      have c2 := h2.bit (k := k) hlt
      have c4 := h4.bit (k := k) hlt
      have f4 := h4.free (1 + k)
      obtain ⟨x0, x1⟩ := bitf_bd a k
      obtain ⟨y0, y1⟩ := bitf_bd b k
      have H1 := Lib.hid h1
      have H2 := Lib.hid h2
      have H3 := Lib.hid h3
      have H4 := Lib.hid h4
      clear h1 h2 h3 h4
      have hst := Lib.hid (minus_step hs.out hc)
      by_cases hn : bitf a k - bitf b k - (c : Int) < 0
      · go_wp2
        go_quiet (fail)
        go_wp2
        go_roundw
        case rel =>
          obtain ⟨e1, e2⟩ := hst.out.1 hn
          rw [e1]
          refine ⟨k + 1, 1, by omega, by omega, Lib.hid e2, rfl, by go_num, (H1.out.drewN nq).other _ (by dsimp only; omega), (H2.out.drewN nq).other _ (by dsimp only; omega), (H3.out.drewN nq).other _ (by dsimp only; omega), ?_, (below_drewN hB nq).setCell (p := ⟨w.heap.size + 1 + 1 + 1, 1 + k, none⟩) (by simp; omega) _⟩
          have := (H4.out.drewN nq).set (k := k) hlt (bitf (a - b) k)
          rwa [firstBits_succ] at this
        case measure => simp [intOf]; omega
      · go_wp2
        go_quiet (fail)
        go_wp2
        go_roundw
        case rel =>
          obtain ⟨e1, e2⟩ := hst.out.2 hn
          rw [e1]
          refine ⟨k + 1, 0, by omega, by omega, Lib.hid e2, rfl, by go_num, (H1.out.drewN nq).other _ (by dsimp only; omega), (H2.out.drewN nq).other _ (by dsimp only; omega), (H3.out.drewN nq).other _ (by dsimp only; omega), ?_, (below_drewN hB nq).setCell (p := ⟨w.heap.size + 1 + 1 + 1, 1 + k, none⟩) (by simp; omega) _⟩
          have := (H4.out.drewN nq).set (k := k) hlt (bitf (a - b) k)
          rwa [firstBits_succ] at this
        case measure => simp [intOf]; omega
    · have ek : k = 200 := by omega
      subst ek
      have ef : num false (firstBits (a - b) 200) = num false (bitf (a - b)) := all_first (Nat.lt_of_le_of_lt (Nat.sub_le _ _) HAB.out.2) (by omega)
      rw [ef] at h4
      have H3 := Lib.hid h3
      have H4 := Lib.hid h4
      clear h1 h2 h3 h4 ef
      go_wp2_with (first | (refine load_num H4.out rfl rfl rfl ?_) | (refine store_num H3.out rfl rfl rfl rfl ?_))
      exact bodyPost_ret (v := .agg (nb false (a - b))) (results_cell_row rfl _ _ (w.heap.size + 1 + 1) _ _ _ _ rfl H3.out.row Try.underlying66 rfl (size42 _ _)) rfl ⟨rfl, below_row hB (by omega) _⟩
end Go.Proofs.Ytbffmobjiiicoaa.F1
end
section
/- The contract of the document's Bare: how two rows of bits stand, as -1, 0 or 1. -/
set_option linter.unusedVariables false
namespace Go.Proofs.Ytbffmobjiiicoaa.F1
open Go.RowKit
/-- How two numbers stand. -/
def stand (a b : Nat) : Int := if a < b then -1 else if a = b then 0 else 1
theorem stand_bd (a b : Nat) : -1 ≤ stand a b ∧ stand a b ≤ 1 := by unfold stand; split <;> (try split) <;> omega
/-- Going down: what is above place m is alike; at place m the bits decide. -/
theorem bare_step {a b m : Nat} (h : a / 2 ^ (m + 1) = b / 2 ^ (m + 1)) :
    (bitf a m = bitf b m → a / 2 ^ m = b / 2 ^ m) ∧ (bitf a m ≠ bitf b m → bitf a m - bitf b m = stand a b) := by
  have ha := div_pow_succ a m
  have hb := div_pow_succ b m
  have key : bitf a m ≠ bitf b m → (bitf a m < bitf b m → a < b) ∧ (bitf b m < bitf a m → b < a) := by
    intro hne
    constructor
    · intro hlt
      have hq : a / 2 ^ m < b / 2 ^ m := by
        unfold bitf at hlt; omega
      exact Nat.lt_of_not_le fun hle => absurd (Nat.div_le_div_right (c := 2 ^ m) hle) (by omega)
    · intro hlt
      have hq : b / 2 ^ m < a / 2 ^ m := by
        unfold bitf at hlt; omega
      exact Nat.lt_of_not_le fun hle => absurd (Nat.div_le_div_right (c := 2 ^ m) hle) (by omega)
  constructor
  · intro he
    unfold bitf at he; omega
  · intro hne
    obtain ⟨k1, k2⟩ := key hne
    have ba := bitf_bd a m
    have bb := bitf_bd b m
    rcases Int.lt_or_gt_of_ne hne with hlt | hgt
    · have := k1 hlt
      rw [stand, if_pos this]; omega
    · have := k2 hgt
      rw [stand, if_neg (by omega), if_neg (by omega)]; omega
set_option maxRecDepth 10000 in
set_option maxHeartbeats 1000000 in
theorem bare_any (na nc : Bool) (a b : Nat) (ha : a < 2 ^ 200) (hb : b < 2 ^ 200) (w : World) :
    Calls Try.prog 28 #[.agg (nb na a), .agg (nb nc b)] w fun e w' => e = .returned (.int .i64 (stand a b)) ∧ Below w.heap.size w w' := by
  have h00 : a / 2 ^ 200 = b / 2 ^ 200 := by rw [Nat.div_eq_of_lt ha, Nat.div_eq_of_lt hb]
  have HA := Lib.hid h00
  clear ha hb h00
  go_enter Try.func28, Try.ntmps28
  go_wp2
  go_loopw [5] (fun i wr => ∃ m : Nat, m ≤ 200 ∧ Hid (a / 2 ^ m = b / 2 ^ m) ∧ i = .int .i64 ((m : Int) - 1) ∧ At wr w.heap.size (num na (bitf a)) ∧ At wr (w.heap.size + 1) (num nc (bitf b)) ∧ Below w.heap.size w wr) (fun i _ => (intOf i + 1).toNat)
  case atStart =>
    have b1 := At.new w (nb na a)
    have b2 := At.new (w.alloc (.cells (nb na a) 66)) (nb nc b)
    simp only [World.size_alloc] at b2
    exact ⟨200, by omega, HA, rfl, b1.alloc _, b2, ((Below.refl _ w).alloc (Nat.le_refl _) _).alloc (by simp) _⟩
  case round =>
    obtain ⟨m, hm, hs, rfl, h1, h2, hB⟩ := hrel
    cases m with
    | zero =>
      have hab : a = b := by simpa using hs.out
      go_wp2
      go_ret
      exact ⟨by rw [stand, if_neg (by omega), if_pos hab]; rfl, hB⟩
    | succ m =>
      have c1 := h1.bit (k := m) (by omega)
      have c2 := h2.bit (k := m) (by omega)
      obtain ⟨x0, x1⟩ := bitf_bd a m
      obtain ⟨y0, y1⟩ := bitf_bd b m
      have H1 := Lib.hid h1
      have H2 := Lib.hid h2
      have HS := Lib.hid (bare_step hs.out)
      clear h1 h2
      have e1 : (((m + 1 : Nat) : Int) - 1) = (m : Int) := by omega
      rw [e1]
      clear e1
      by_cases hn : bitf a m = bitf b m
      · have hn2 : (bitf a m != bitf b m) = false := by simpa using hn
        have HN := Lib.hid hn
        clear hn
        go_wp2
        go_quiet (fail)
        go_wp2
        go_roundw
        case rel => exact ⟨m, by omega, Lib.hid (HS.out.1 HN.out), rfl, H1.out.drewN _, H2.out.drewN _, below_drewN hB _⟩
        case measure => simp [intOf]
      · have hn2 : (bitf a m != bitf b m) = true := by simpa using hn
        have HN := Lib.hid hn
        clear hn
        go_wp2
        go_quiet (fail)
        go_wp2
        go_quiet (fail)
        go_wp2
        go_ret
        refine ⟨?_, ?_⟩
        · rw [← HS.out.2 HN.out]; rfl
        · exact below_drewN (below_drewN hB _) _
end Go.Proofs.Ytbffmobjiiicoaa.F1
end
