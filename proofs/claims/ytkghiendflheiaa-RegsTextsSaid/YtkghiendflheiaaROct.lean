/- The bytes of an integer in an array of eight: split and join of package regs. -/
import Derived.Test.YtkghiendflheiaaRRow
import Derived.Laws.Rows
import Derived.Laws.Tables
import Derived.Laws.BitsLemmas
import Derived.Deep.WholeRow
import Derived.LoopTactic
set_option linter.unusedVariables false
namespace Go.Proofs.Ytkghiendflheiaa
open Go.RowKit Go.Lib Go.Sort
/-- A block known whole. -/
def At (T : TypeId) (W : World) (b : Nat) (cs : Array Value) : Prop := W.heap[b]? = some (.cells cs T (0, 0))
theorem At.lt {T : TypeId} {W : World} {b : Nat} {cs : Array Value} (h : At T W b cs) : b < W.heap.size := (Array.getElem?_eq_some_iff.1 h).1
theorem At.free {T : TypeId} {W : World} {b : Nat} {cs : Array Value} (h : At T W b cs) (j : Nat) : W.frozen? ⟨b, j, none⟩ = false := frozen_of_row W b j cs _ h
theorem At.cell {T : TypeId} {W : World} {b : Nat} {cs : Array Value} (h : At T W b cs) (j : Nat) : W.cell? ⟨b, j, none⟩ = cs[j]? := cell_of_row W b j cs _ _ h
theorem At.set {T : TypeId} {W : World} {b : Nat} {cs : Array Value} (h : At T W b cs) (k : Nat) (x : Value) : At T (W.setCell ⟨b, k, none⟩ x) b (cs.setIfInBounds k x) := heap_setCell_same W b k _ _ x h
theorem At.other {T : TypeId} {W : World} {b : Nat} {cs : Array Value} (h : At T W b cs) {a : Addr} (v : Value) (hne : b ≠ a.block) : At T (W.setCell a v) b cs := (heap_setCell_other W a b v hne).trans h
theorem At.alloc {T : TypeId} {W : World} {b : Nat} {cs : Array Value} (h : At T W b cs) (o : Obj) : At T (W.alloc o) b cs := by
  have : (W.alloc o).heap[b]? = W.heap[b]? := by
    show (W.heap.push o)[b]? = W.heap[b]?
    rw [Array.getElem?_push, if_neg (Nat.ne_of_lt h.lt)]
  exact this.trans h
theorem At.new (T : TypeId) (W : World) (cs : Array Value) : At T (W.alloc (.cells cs T)) W.heap.size cs := heap_alloc_new W _
theorem At.below {T : TypeId} {W W' : World} {B b : Nat} {cs : Array Value} (h : At T W b cs) (hb : b < B) (hB : Below B W W') : At T W' b cs := (hB.block b hb).trans h
theorem At.row {T : TypeId} {W : World} {b : Nat} {cs cs' : Array Value} (h : At T W b cs) : At T (W.setRow b cs') b cs' := setRow_heap W b cs cs' _ _ h
theorem At.rowOther {T : TypeId} {W : World} {b g : Nat} {cs : Array Value} (h : At T W b cs) (cs' : Array Value) (hne : b ≠ g) : At T (W.setRow g cs') b cs := (setRow_other W g b cs' hne).trans h
theorem below_row {B : Nat} {w W : World} (h : Below B w W) {g : Nat} (hg : B ≤ g) (cs : Array Value) : Below B w (W.setRow g cs) :=
  ⟨h.os, h.tape, h.output, by simpa using h.size, fun k hk => (setRow_other W g k cs (by omega)).trans (h.block k hk)⟩
def oct (f : Nat → Int) : Array Value := ((List.range 8).map (fun i => Value.int .u8 (f i))).toArray
theorem oct_eq (f : Nat → Int) : oct f = #[.int .u8 (f 0), .int .u8 (f 1), .int .u8 (f 2), .int .u8 (f 3), .int .u8 (f 4), .int .u8 (f 5), .int .u8 (f 6), .int .u8 (f 7)] := rfl
theorem oct_size (f : Nat → Int) : (oct f).size = 8 := rfl
theorem oct_get (f : Nat → Int) (k : Nat) (hk : k < 8) : (oct f)[k]? = some (.int .u8 (f k)) := by simp [oct, hk]
theorem oct_set (f : Nat → Int) (k : Nat) (x : Int) (hk : k < 8) : (oct f).setIfInBounds k (.int .u8 x) = oct (fun j => if j = k then x else f j) := by
  apply Array.ext_getElem?
  intro i
  rw [Array.getElem?_setIfInBounds]
  by_cases h : k = i
  · subst h; simp [oct, hk]
  · rw [if_neg h]
    by_cases hi : i < 8
    · simp [oct, hi, show ¬ i = k from fun e => h e.symm]
    · simp [oct, hi]
theorem oct_congr {f g : Nat → Int} (h : ∀ j, j < 8 → f j = g j) : oct f = oct g := by
  unfold oct
  rw [List.map_congr_left (fun i hi => by rw [h i (by simpa using hi)])]
theorem oct_one (f : Nat → Int) : (oct f).all (·.oneCell') = true := by
  rw [Array.all_eq_true_iff_forall_mem]
  intro v hv
  simp only [oct, List.mem_toArray, List.mem_map] at hv
  obtain ⟨i, _, rfl⟩ := hv
  rfl
def byt (v j : Nat) : Int := ((v / 256 ^ (7 - j) % 256 : Nat) : Int)
def part (v j : Nat) (i : Nat) : Int := if j ≤ i then byt v i else 0
theorem part_set (v m : Nat) : (fun j => if j = m then byt v m else part v (m + 1) j) = part v m := by
  funext j
  unfold part
  by_cases h : j = m
  · subst h; simp
  · by_cases h2 : m + 1 ≤ j
    · simp [h, h2, show m ≤ j by omega]
    · simp [h, h2, show ¬ m ≤ j by omega]
theorem info57 (f : Nat → Int) : (Try.prog.info? 54).map (·.size) = some (oct f).size := by
  rw [oct_size]; kernel_rfl
theorem load_oct {ops : Array Oper} {rest : List Oper} {o : Oper} {a : Act} {w : World} {Q : Exit → Act → World → Prop} {x : Operand} {g : Nat} {f : Nat → Int} (hg : At 54 w g (oct f))
    (hgd : o.guard = none) (ho : o.op = .load 54 x) (hx : a.eval x = .pointer (some ⟨g, 0, none⟩))
    (h : wpList Try.prog ops Q rest (a.put o.dst (.agg (oct f))) w) : wpList Try.prog ops Q (o :: rest) a w :=
  wpList_load_row hgd 54 x ho g hx _ _ _ _ hg Try.underlying54 rfl (info57 f) h
theorem store_oct {ops : Array Oper} {rest : List Oper} {o : Oper} {a : Act} {w : World} {Q : Exit → Act → World → Prop} {x y : Operand} {g : Nat} {f f' : Nat → Int} (hg : At 54 w g (oct f'))
    (hgd : o.guard = none) (ho : o.op = .store 54 x y) (hx : a.eval x = .pointer (some ⟨g, 0, none⟩)) (hy : a.eval y = .agg (oct f))
    (h : wpList Try.prog ops Q rest (a.put o.dst undef) (w.setRow g (oct f))) : wpList Try.prog ops Q (o :: rest) a w :=
  wpList_store_row hgd 54 x y ho g (oct f) hx hy _ _ hg (info57 f) (by rw [oct_size, oct_size]) (oct_one f) h
theorem div_step (v m : Nat) (h : m < 8) : v / 256 ^ (8 - (m + 1)) / 256 = v / 256 ^ (8 - m) := by
  rw [Nat.div_div_eq_div_mul, ← Nat.pow_succ]
  congr 2
  omega
set_option maxRecDepth 10000 in
set_option maxHeartbeats 1000000 in
theorem split_any (v : Nat) (hv : v < 18446744073709551616) (w : World) :
    Calls Try.prog 24 #[.int .u64 v] w fun e w' => e = .returned (.agg (oct (byt v))) ∧ Below w.heap.size w w' := by
  go_enter Try.func24, Try.ntmps24
  go_wp2
  go_loopw [0, 4] (fun t i wr => ∃ (j : Nat) (iz : Int) (X : Nat), j ≤ 8 ∧ iz = (j : Int) - 1 ∧ X = v / 256 ^ (8 - j) ∧ i = .int .i64 iz ∧ t = .int .u64 (X : Int) ∧ At 54 wr w.heap.size (oct (fun _ => 0)) ∧ At 54 wr (w.heap.size + 1) (oct (part v j)) ∧ Below w.heap.size w wr) (fun _ i _ => ((RowKit.intOf i) + 1).toNat)
  case atStart =>
    refine ⟨8, 7, v, by omega, by omega, by simp, rfl, rfl, ?_, ?_, ?_⟩
    · exact (At.new _ w _).alloc _
    · have := At.new 54 (w.alloc (.cells (oct (fun _ => 0)) 54)) (oct (fun _ => 0))
      rw [World.size_alloc] at this
      exact this
    · exact ((Below.refl _ w).alloc (Nat.le_refl _) _).alloc (by simp) _
  case round =>
    obtain ⟨j, iz, X, hj, hiz, hX, rfl, rfl, h1, h2, hB⟩ := hrel
    have hXb : X < 18446744073709551616 := by rw [hX]; exact Nat.lt_of_le_of_lt (Nat.div_le_self _ _) hv
    rcases j with _ | m
    · obtain rfl : iz = -1 := by omega
      have HX := Lib.hid hX
      have H1 := Lib.hid h1
      have H2 := Lib.hid h2
      clear hX h1 h2 hiz
      go_wp2_with (first | (refine load_oct H2.out rfl rfl rfl ?_) | (refine store_oct H1.out rfl rfl rfl rfl ?_))
      refine bodyPost_ret (v := .agg (oct (byt v))) (results_cell_row rfl _ _ w.heap.size _ _ _ _ rfl (?_ : At 54 _ _ _) Try.underlying54 rfl (info57 _)) rfl ⟨rfl, below_row hB (Nat.le_refl _) _⟩
      have := H1.out.row (cs' := oct (part v 0))
      rwa [show part v 0 = byt v from by funext i; simp [part]] at this
    · obtain rfl : iz = (m : Int) := by omega
      have hc := h2.cell m
      rw [oct_get _ _ (by omega)] at hc
      have hf := h2.free m
      have hm : m < 8 := by omega
      have HX := Lib.hid hX
      have H1 := Lib.hid h1
      have H2 := Lib.hid h2
      clear hX h1 h2 hiz
      go_wp2
      go_roundw
      case rel =>
        refine ⟨m, (m : Int) - 1, X / 256, by omega, by omega, by rw [HX.out]; exact div_step v m hm, rfl, by go_num, H1.out.other _ (by simp), ?_, hB.setCell (p := ⟨w.heap.size + 1, m, none⟩) (by simp) _⟩
        have := H2.out.set m (.int .u8 (byt v m))
        rw [oct_set _ _ _ hm, part_set] at this
        have e : (X : Int) % 256 = byt v m := by
          rw [HX.out]; unfold byt
          rw [show 8 - (m + 1) = 7 - m by omega]; omega
        rw [e]
        exact this
      case measure => simp [RowKit.intOf]
/-- What bytes say, the most significant one first. -/
def jn (f : Nat → Int) : Nat → Int
  | 0 => 0
  | k + 1 => jn f k * 256 + f k
theorem jn_bd (f : Nat → Int) (hf : ∀ j, j < 8 → 0 ≤ f j ∧ f j ≤ 255) : ∀ k, k ≤ 7 → 0 ≤ jn f k ∧ jn f k ≤ 72057594037927935 := by
  have b1 := hf 0 (by omega)
  have b2 := hf 1 (by omega)
  have b3 := hf 2 (by omega)
  have b4 := hf 3 (by omega)
  have b5 := hf 4 (by omega)
  have b6 := hf 5 (by omega)
  have b7 := hf 6 (by omega)
  intro k hk
  rcases k with _ | _ | _ | _ | _ | _ | _ | _ | k
  all_goals (simp only [jn]; omega)
theorem or_u64 (x y : Int) (h0 : 0 ≤ x) (h1 : x ≤ 72057594037927935) (h2 : 0 ≤ y) (h3 : y ≤ 255) : bits .or .u64 (x * 256) y = x * 256 + y :=
  bits_join .u64 64 (by decide) (fun n a b => by rw [IntKind.wrap_u64]; omega) 8 (x * 256) y (by omega) (by omega) (by omega) h2 (by omega) (by omega)
theorem idx_oct (f : Nat → Int) (k : Nat) (hk : k < 8) (w : World) : (Instr.index 54 (.agg (oct f)) (.int .i64 (k : Int))).run Try.prog w = .ok (.int .u8 (f k)) w := by
  rcases k with _ | _ | _ | _ | _ | _ | _ | _ | k
  all_goals first | (exfalso; omega) | kernel_rfl
set_option maxRecDepth 10000 in
set_option maxHeartbeats 1000000 in
theorem join_any (f : Nat → Int) (hf : ∀ j, j < 8 → 0 ≤ f j ∧ f j ≤ 255) (w : World) :
    Calls Try.prog 27 #[.agg (oct f)] w fun e w' => e = .returned (.int .u64 (jn f 8)) ∧ Below w.heap.size w w' := by
  have HF := Lib.hid hf
  have HJ := Lib.hid (jn_bd f hf)
  have HA := Lib.hid (At.new 54 w (oct f))
  clear hf
  go_enter Try.func27, Try.ntmps27
  go_wp2_with (refine load_oct HA.out rfl rfl rfl ?_)
  go_loop [3, 7] (fun t i => ∃ k : Nat, k ≤ 8 ∧ i = .int .i64 k ∧ t = .int .u64 (jn f k)) (fun _ i => 8 - (RowKit.intOf i).toNat)
  case atStart => exact ⟨0, by omega, rfl, rfl⟩
  case round =>
    obtain ⟨k, hk, rfl, rfl⟩ := hrel
    by_cases hlt : k < 8
    · obtain ⟨f0, f1⟩ := HF.out k hlt
      obtain ⟨g0, g1⟩ := HJ.out k (by omega)
      have hi := idx_oct f k hlt
      have ho := or_u64 (jn f k) (f k) g0 g1 f0 f1
      have HE : Hid (jn f (k + 1) = jn f k * 256 + f k) := Lib.hid rfl
      go_wp2
      go_round
      case rel => exact ⟨k + 1, by omega, by go_num, by rw [HE.out]⟩
      case measure => simp [RowKit.intOf]; omega
    · obtain rfl : k = 8 := by omega
      go_wp2
      go_ret
      exact ⟨rfl, (Below.refl _ w).alloc (Nat.le_refl _) _⟩
end Go.Proofs.Ytkghiendflheiaa
