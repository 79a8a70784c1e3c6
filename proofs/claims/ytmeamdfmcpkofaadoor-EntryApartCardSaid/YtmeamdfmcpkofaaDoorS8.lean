/- Slices of uint8 as lists: what came in, what the call made, appending. -/
import Derived.Test.YtmeamdfmcpkofaaDoorProg
import Derived.RangeFuncNested
import Derived.RangeFuncBox
import Derived.OpenShut
import Derived.Maps.AppendAt
import Derived.Laws.OwnMore
import Derived.Laws.BytesArg
import Derived.RegionTactic
import Derived.OwnWalk
import Derived.OwnWalkIn
import Derived.Below
import Derived.WalkKit
import Derived.Shelf.Abstract
import Derived.Lib.Hide
set_option linter.unusedVariables false
namespace Go.Proofs.YtmeamdfmcpkofaaDoor
open Go.RowKit Go.Shelf
/-- A slice of integers that came in: nil; or a row of 'cap' cells, the numbers zs, the first len of which are its elements. -/
def IsRow (k : IntKind) (w : World) (a : Option Addr) (len cap : Nat) (zs : List Int) : Prop :=
  (a = none ∧ len = 0 ∧ cap = 0 ∧ zs = []) ∨
  ∃ x, a = some x ∧ len ≤ cap ∧ cap ≤ maxLen ∧ zs.length = cap ∧ (∀ i, i < zs.length → w.cell? (x.add i) = some (.int k (zs.getD i 0))) ∧ ∀ n ∈ zs, (Lit.int k n).wf = true
/-- The slice value sv holds the numbers xs, in a block below n₀; or there are none. -/
def Bys8 (n₀ : Nat) (W : World) (sv : Value) (xs : List Int) : Prop :=
  (∀ x ∈ xs, 0 ≤ x ∧ x < 256) ∧ ((xs = [] ∧ ∃ a cap, sv = .slice a 0 cap) ∨ ∃ b off cap, sv = .slice (some ⟨b, off, none⟩) xs.length cap ∧ b < n₀ ∧ ∀ j, j < xs.length → W.cell? ⟨b, off + j, none⟩ = some (.int .u8 (xs.getD j 0)))
theorem Bys8.below {n₀ : Nat} {A B : World} (h : Below n₀ A B) {sv : Value} {xs : List Int} : Bys8 n₀ A sv xs → Bys8 n₀ B sv xs
  | ⟨hr, .inl e⟩ => ⟨hr, .inl e⟩
  | ⟨hr, .inr ⟨b, off, cap, e, hb, hc⟩⟩ => ⟨hr, .inr ⟨b, off, cap, e, hb, fun j hj => (h.cell (p := ⟨b, off + j, none⟩) hb).trans (hc j hj)⟩⟩
theorem Bys8.mono {n₀ n₁ : Nat} (h : n₀ ≤ n₁) {W : World} {sv : Value} {xs : List Int} : Bys8 n₀ W sv xs → Bys8 n₁ W sv xs
  | ⟨hr, .inl e⟩ => ⟨hr, .inl e⟩
  | ⟨hr, .inr ⟨b, off, cap, e, hb, hc⟩⟩ => ⟨hr, .inr ⟨b, off, cap, e, Nat.lt_of_lt_of_le hb h, hc⟩⟩
theorem Bys8.is {n₀ : Nat} {W : World} {sv : Value} {xs : List Int} : Bys8 n₀ W sv xs → ∃ a cap, sv = .slice a xs.length cap
  | ⟨_, .inl ⟨e, a, cap, h⟩⟩ => ⟨a, cap, by rw [e]; exact h⟩
  | ⟨_, .inr ⟨b, off, cap, e, _, _⟩⟩ => ⟨_, cap, e⟩
theorem Bys8.bd {n₀ : Nat} {W : World} {sv : Value} {xs : List Int} (h : Bys8 n₀ W sv xs) (j : Nat) : 0 ≤ xs.getD j 0 ∧ xs.getD j 0 < 256 := by
  by_cases hj : j < xs.length
  · exact h.1 _ (by simp [List.getD, hj])
  · rw [show xs.getD j 0 = 0 by simp [List.getD, hj]]; omega
theorem Bys8.take {B : Nat} {w : World} {a : Option Addr} {len cap : Nat} {xs : List Int} (h : Bys8 B w (.slice a len cap) xs) (n : Nat) (hn : n ≤ xs.length) : Bys8 B w (.slice a n cap) (xs.take n) := by
  obtain ⟨hr, h⟩ := h
  refine ⟨fun x hx => hr x (List.mem_of_mem_take hx), ?_⟩
  rcases Nat.eq_zero_or_pos n with rfl | h0
  · exact .inl ⟨by simp, a, cap, rfl⟩
  · rcases h with ⟨rfl, _⟩ | ⟨b, off, cap', e, hb, hc⟩
    · simp at hn; omega
    · cases e
      refine .inr ⟨b, off, cap, by rw [List.length_take, Nat.min_eq_left hn], hb, fun j hj => ?_⟩
      have hj' : j < n := by simp at hj; omega
      rw [hc j (by omega)]
      simp [List.getD, List.getElem?_take_of_lt hj']
theorem Bys8.drop {B : Nat} {w : World} {b off len cap : Nat} {xs : List Int} (h : Bys8 B w (.slice (some ⟨b, off, none⟩) len cap) xs) (n : Nat) (hn : n < xs.length) (c : Nat) : Bys8 B w (.slice (some ⟨b, off + n, none⟩) (xs.length - n) c) (xs.drop n) := by
  obtain ⟨hr, h⟩ := h
  refine ⟨fun x hx => hr x (List.mem_of_mem_drop hx), ?_⟩
  rcases h with ⟨rfl, _⟩ | ⟨b', off', cap', e, hb, hc⟩
  · simp at hn
  · cases e
    refine .inr ⟨b, off + n, c, by rw [List.length_drop], hb, fun j hj => ?_⟩
    rw [List.length_drop] at hj
    have := hc (n + j) (by omega)
    rw [Nat.add_assoc, this]
    simp [List.getD]
theorem bys8_nil (n₀ : Nat) (w : World) (a : Option Addr) (cap : Nat) : Bys8 n₀ w (.slice a 0 cap) [] := ⟨by simp, .inl ⟨rfl, a, cap, rfl⟩⟩
theorem bounds_u8 {n : Int} (h : (Lit.int .u8 n).wf = true) : 0 ≤ n ∧ n < 256 := by
  simp [Lit.wf, IntKind.min, IntKind.max, IntKind.bits, IntKind.signed] at h; omega
def vals8 (xs : List Int) : List Value := xs.map (Value.int .u8)
theorem vals8_len (xs : List Int) : (vals8 xs).length = xs.length := by simp [vals8]
theorem vals8_app (xs ys : List Int) : vals8 xs ++ vals8 ys = vals8 (xs ++ ys) := by simp [vals8]
theorem vals8_one (xs : List Int) : ∀ u ∈ vals8 xs, u.oneCell' = true := by
  intro u hu; simp [vals8] at hu; obtain ⟨n, _, rfl⟩ := hu; rfl
theorem vals8_get (xs : List Int) (j : Nat) (h : j < xs.length) : (vals8 xs)[j]? = some (.int .u8 (xs.getD j 0)) := by simp [vals8, h, List.getD]
/-- The slice value v is the call's own row of just the numbers xs, in a block from 'base' on; or nil, and there are none. -/
def Own8 (base : Nat) (w : World) (v : Value) (xs : List Int) : Prop := (∀ x ∈ xs, 0 ≤ x ∧ x < 256) ∧ w.ownsRow base 5 1 v xs.length (vals8 xs)
theorem Own8.nil (base : Nat) (w : World) : Own8 base w (.slice none 0 0) [] := ⟨by simp, by simp [vals8], .inl ⟨rfl, rfl⟩⟩
theorem Own8.form {base : Nat} {w : World} {v : Value} {xs : List Int} (h : Own8 base w v xs) : ∃ a c, v = .slice a xs.length c := by
  rcases h.2.2 with ⟨rfl, e⟩ | ⟨g, cap, cur, rfl, _⟩
  · exact ⟨none, 0, by rw [e]⟩
  · exact ⟨_, cap, rfl⟩
theorem Own8.at_ {base : Nat} {w : World} {a : Option Addr} {n c : Nat} {xs : List Int} (h : Own8 base w (.slice a n c) xs) (h0 : 0 < n) : ∃ g, a = some ⟨g, 0, none⟩ ∧ base ≤ g ∧ g < w.heap.size := by
  rcases h.2.2 with ⟨e, e2⟩ | ⟨g, cap, cur, e, hg, hb, _⟩
  · cases e; omega
  · cases e; exact ⟨g, rfl, hg, (Array.getElem?_eq_some_iff.1 hb).1⟩
theorem Own8.bys {base : Nat} {w : World} {v : Value} {xs : List Int} (h : Own8 base w v xs) : Bys8 w.heap.size w v xs := by
  refine ⟨h.1, ?_⟩
  rcases h.2.2 with ⟨rfl, e⟩ | ⟨g, cap, cur, rfl, hg, hb, hn, hm, hs, ht⟩
  · exact .inl ⟨List.eq_nil_of_length_eq_zero e, none, 0, rfl⟩
  · refine .inr ⟨g, 0, cap, rfl, (Array.getElem?_eq_some_iff.1 hb).1, fun j hj => ?_⟩
    have e1 := vals8_get xs j hj
    rw [← ht, Nat.mul_one, List.getElem?_take_of_lt hj] at e1
    simp only [World.cell?, hb, Nat.zero_add]
    simpa using e1
theorem Own8.row {base : Nat} {w : World} {v : Value} {xs : List Int} (h : Own8 base w v xs) : ∀ k, v.ownBlock = some k → base ≤ k := by
  intro k hk
  rcases h.2.2 with ⟨rfl, e⟩ | ⟨g, cap, cur, rfl, hg, _⟩
  · simp [Value.ownBlock] at hk
  · simp [Value.ownBlock] at hk; omega
theorem Own8.cap {base n c : Nat} {a : Option Addr} {w : World} {xs : List Int} (h : Own8 base w (.slice a n c) xs) : n ≤ c := by
  rcases h.2.2 with ⟨e, e2⟩ | ⟨g, cap, cur, e, hg, hb, hn, _⟩
  · cases e; exact Nat.zero_le _
  · cases e; exact hn
theorem Own8.le {base base' : Nat} {w : World} {v : Value} {xs : List Int} (h : Own8 base w v xs) (hb : base' ≤ base) : Own8 base' w v xs :=
  ⟨h.1, h.2.1, h.2.2.elim Or.inl (fun ⟨g, cap, cur, hv, hg, r⟩ => Or.inr ⟨g, cap, cur, hv, Nat.le_trans hb hg, r⟩)⟩
theorem Own8.below {base B : Nat} {w w' : World} {v : Value} {xs : List Int} (h : Own8 base w v xs) (hb : Below B w w') (hB : w.heap.size ≤ B) : Own8 base w' v xs := by
  refine ⟨h.1, h.2.1, ?_⟩
  rcases h.2.2 with e | ⟨g, cap, cur, rfl, hg, hh, r⟩
  · exact .inl e
  · have hlt : g < w.heap.size := (Array.getElem?_eq_some_iff.1 hh).1
    exact .inr ⟨g, cap, cur, rfl, hg, (hb.block g (by omega)).trans hh, r⟩
theorem Own8.empty (w : World) : Own8 w.heap.size (w.alloc (.cells #[] 5)) (.slice (some ⟨w.heap.size, 0, none⟩) 0 0) [] := by
  refine ⟨by simp, by simp [vals8], .inr ⟨w.heap.size, 0, #[], rfl, Nat.le_refl _, World.alloc_heap_new w _, Nat.le_refl _, by simp [maxLen], by simp, by simp [vals8]⟩⟩
theorem info8 : (Tryd.prog.info? 5).map (fun i => (i.zero, i.size, i.bytes)) = some (some (.int .u8 0), 1, 1) := by kernel_rfl
theorem parts8 : ∃ i, Tryd.prog.info? 5 = some i ∧ i.zero = some (.int .u8 0) ∧ i.size = 1 ∧ i.bytes = 1 := by
  have h := info8
  cases hi : Tryd.prog.info? 5 with
  | none => rw [hi] at h; cases h
  | some i => rw [hi] at h; simp at h; exact ⟨i, rfl, h.1, h.2.1, h.2.2⟩
/-- Appending, told in full. -/
theorem run_bapp8_row (base ty : Nat) (w : World) (v : Value) (ys : List Int) (hown : Own8 base w v ys) (B : Nat) (A : Option Addr) (m c : Nat) (xs : List Int) (hb : Bys8 B w (.slice A m c) xs)
    (hlen : ys.length + xs.length ≤ 10000000000000) (hbase : base ≤ w.heap.size) :
    ∃ v' w', (Builtin.append_ #[28, 28] ty #[v, .slice A m c]).run Tryd.prog w = .ok v' w' ∧ Own8 base w' v' (ys ++ xs) ∧ w.grownBy w' v.ownBlock := by
  obtain ⟨i, hi, hz, hs, hby⟩ := parts8
  obtain ⟨hr, hb⟩ := hb
  have main : ∀ (ad : Addr), A = some ad → m = xs.length → (∀ j u, (vals8 xs)[j]? = some u → w.cell? (ad.add j) = some u) →
      ∃ v' w', (Builtin.append_ #[28, 28] ty #[v, .slice A m c]).run Tryd.prog w = .ok v' w' ∧ Own8 base w' v' (ys ++ xs) ∧ w.grownBy w' v.ownBlock := by
    rintro ad rfl rfl hc
    obtain ⟨v', w', hrun, h2, h3, _, _⟩ := run_append_own_at (P := Tryd.prog) w base 28 ty 5 i (.int .u8 0) 1 1 Tryd.underlying28 hi hz hs hby rfl (by decide) v ys.length (vals8 ys) hown.2 ad xs.length c (vals8 xs) (by simp [vals8]) hc (vals8_one xs)
      (by unfold maxLen; omega) (by omega) hbase
    refine ⟨v', w', hrun, ⟨?_, by rw [List.length_append, ← vals8_app]; exact h2⟩, h3⟩
    intro x hx
    rcases List.mem_append.1 hx with h | h
    · exact hown.1 x h
    · exact hr x h
  rcases hb with ⟨rfl, a, cap, e⟩ | ⟨b, off, cap, e, hB, hcs⟩
  · cases e
    rcases A with _ | ad
    · refine ⟨v, w, ?_, by simpa using hown, World.grownBy.refl w _⟩
      rcases hown.2.2 with ⟨rfl, _⟩ | ⟨g, cap, cur, rfl, _, _, hnc, _⟩
      · simp [Builtin.append_, run_underlying Tryd.underlying28, sizeOf, typeInfo, hi, Builtin.lenOf, Builtin.firstCells]
      · simp [Builtin.append_, run_underlying Tryd.underlying28, sizeOf, typeInfo, hi, Builtin.lenOf, Builtin.firstCells, hnc, storeCells]
    · exact main ad rfl rfl (by intro j u h; simp [vals8] at h)
  · cases e
    refine main _ rfl rfl ?_
    intro j u h
    have hj : j < xs.length := by
      have := (List.getElem?_eq_some_iff.1 h).1; simpa [vals8] using this
    rw [vals8_get xs j hj] at h
    cases h
    have hplain : (⟨b, off, none⟩ : Addr).add j = ⟨b, off + j, none⟩ := by unfold Addr.add; split <;> simp_all
    rw [hplain]
    exact hcs j hj
theorem run_bapp8 (base ty : Nat) (w : World) (v : Value) (ys : List Int) (hown : Own8 base w v ys) (B : Nat) (A : Option Addr) (m c : Nat) (xs : List Int) (hb : Bys8 B w (.slice A m c) xs)
    (hlen : ys.length + xs.length ≤ 10000000000000) (hbase : base ≤ w.heap.size) :
    ∃ v' w', (Builtin.append_ #[28, 28] ty #[v, .slice A m c]).run Tryd.prog w = .ok v' w' ∧ Own8 base w' v' (ys ++ xs) ∧ Below base w w' := by
  obtain ⟨v', w', h1, h2, h3⟩ := run_bapp8_row base ty w v ys hown B A m c xs hb hlen hbase
  exact ⟨v', w', h1, h2, (Below.refl _ _).grown h3 hbase hown.row⟩
theorem wpList_bapp8 {w : World} {ops : Array Oper} {rest : List Oper} {o : Oper} {a : Act} {Q : Exit → Act → World → Prop} (hgd : o.guard = none) (s x : Operand)
    (ho : o.op = .call { callee := .builtin .append, args := #[s, x], argTypes := #[28, 28] })
    (base : Nat) (v : Value) (ys : List Int) (hs : a.eval s = v) (hown : Own8 base w v ys) (B : Nat) (A : Option Addr) (m c : Nat) (xs : List Int) (hx : a.eval x = .slice A m c) (hb : Bys8 B w (.slice A m c) xs)
    (hlen : ys.length + xs.length ≤ 10000000000000) (hbase : base ≤ w.heap.size)
    (h : ∀ a' c' w', Own8 base w' (.slice a' (ys ++ xs).length c') (ys ++ xs) → Below base w w' → wpList Tryd.prog ops Q rest (a.put o.dst (.slice a' (ys ++ xs).length c')) w') : wpList Tryd.prog ops Q (o :: rest) a w := by
  refine wpList_plain hgd fun K hK => ?_
  obtain ⟨v', w', hrun, h2, h3⟩ := run_bapp8 base o.type w v ys hown B A m c xs hb hlen hbase
  obtain ⟨a', c', rfl⟩ := h2.form
  unfold Oper.wp execOp
  simp only [ho, resolve, invoke, builtin, Sem.run_bind, Sem.run_pure, Result.andThen_ok, List.map_toArray, List.map_cons, List.map_nil, hs, hx, hrun]
  exact hK _ _ (h a' c' w' h2 h3)
theorem wpListIn_bapp8 {F : Fence} {n : Nat} {w : World} {ops : Array Oper} {rest : List Oper} {o : Oper} {a : Act} {Q : Exit → Act → World → Prop} (hgd : o.guard = none) (s x : Operand)
    (ho : o.op = .call { callee := .builtin .append, args := #[s, x], argTypes := #[28, 28] })
    (base : Nat) (v : Value) (ys : List Int) (hs : a.eval s = v) (hown : Own8 base w v ys) (B : Nat) (A : Option Addr) (m c : Nat) (xs : List Int) (hx : a.eval x = .slice A m c) (hb : Bys8 B w (.slice A m c) xs)
    (hlen : ys.length + xs.length ≤ 10000000000000) (hbase : base ≤ w.heap.size)
    (h : ∀ a' c' w', Own8 base w' (.slice a' (ys ++ xs).length c') (ys ++ xs) → w.grownBy w' v.ownBlock → wpListIn F n Tryd.prog ops Q rest (a.put o.dst (.slice a' (ys ++ xs).length c')) w') : wpListIn F n Tryd.prog ops Q (o :: rest) a w := by
  refine wpListIn_plain hgd fun K hK => ?_
  obtain ⟨v', w', hrun, h2, h3⟩ := run_bapp8_row base o.type w v ys hown B A m c xs hb hlen hbase
  obtain ⟨a', c', rfl⟩ := h2.form
  unfold Oper.wpIn
  refine ⟨?_, ?_⟩
  · simp [Oper.about, ho, resolve, Target.leads, Sem.run_pure]
  · rw [Oper.semAt_plain F _ _ (by rw [ho]; intro c hc'; cases hc')]
    simp [execOp, ho, resolve, invoke, builtin, hs, hx, hrun, Result.andThen]
    have hh := h a' c' w' h2 h3
    rw [List.length_append] at hh
    exact hK _ _ hh
theorem bys8_alloc {T : TypeId} (w : World) (xs : List Int) (hx : ∀ x ∈ xs, 0 ≤ x ∧ x < 256) (vs : Array Value) (hv : vs = (vals8 xs).toArray) (n cap : Nat) (hn : n = xs.length) (fr : Nat × Nat) :
    Bys8 (w.alloc (.cells vs T fr)).heap.size (w.alloc (.cells vs T fr)) (.slice (some ⟨w.heap.size, 0, none⟩) n cap) xs := by
  subst hv hn
  refine ⟨hx, .inr ⟨w.heap.size, 0, cap, rfl, by simp, fun j hj => ?_⟩⟩
  simp only [World.cell?, World.alloc_heap_new]
  simp [List.getD, hj, vals8]
/-- The cells 0 .. n - 1 of block g are f 0 .. f (n - 1), and may be written. -/
def Row8 (g n : Nat) (f : Nat → Int) (w : World) : Prop := ∀ j, j < n → w.cell? ⟨g, j, none⟩ = some (.int .u8 (f j)) ∧ w.frozen? ⟨g, j, none⟩ = false
theorem Row8.set {g n : Nat} {f : Nat → Int} {w : World} (h : Row8 g n f w) (k : Nat) (v : Int) : Row8 g n (fun j => if j = k then v else f j) (w.setCell ⟨g, k, none⟩ (.int .u8 v)) := by
  intro j hj
  refine ⟨?_, (World.frozen?_setCell _ _ _ _).trans (h j hj).2⟩
  by_cases e : j = k
  · subst e
    simp only [if_true]
    exact World.cell?_setCell_same _ _ _ (h j hj).1
  · simp only [e, if_false]
    exact (World.cell?_setCell_other _ _ _ _ (fun q => e (by injection q with _ q2 _; exact q2.symm))).trans (h j hj).1
theorem Row8.congr {g n : Nat} {f f' : Nat → Int} {w : World} (h : Row8 g n f w) (he : ∀ j, j < n → f j = f' j) : Row8 g n f' w :=
  fun j hj => ⟨by rw [← he j hj]; exact (h j hj).1, (h j hj).2⟩
theorem Row8.drew {g n : Nat} {f : Nat → Int} {w : World} (h : Row8 g n f w) : Row8 g n f w.drew := h
theorem Row8.below {g n B : Nat} {f : Nat → Int} {w w' : World} (h : Row8 g n f w) (hb : Below B w w') (hg : g < B) : Row8 g n f w' :=
  fun j hj => ⟨(hb.cell (p := ⟨g, j, none⟩) hg).trans (h j hj).1, (hb.frozen (p := ⟨g, j, none⟩) hg).trans (h j hj).2⟩
theorem Row8.bys {g n : Nat} {f : Nat → Int} {w : World} (h : Row8 g n f w) (hf : ∀ j, j < n → 0 ≤ f j ∧ f j < 256) (hg : g < w.heap.size) (cap : Nat) : Bys8 w.heap.size w (.slice (some ⟨g, 0, none⟩) n cap) ((List.range n).map f) := by
  refine ⟨?_, .inr ⟨g, 0, cap, by simp, hg, ?_⟩⟩
  · intro x hx
    simp only [List.mem_map, List.mem_range] at hx
    obtain ⟨j, hj, rfl⟩ := hx
    exact hf j hj
  · intro j hj
    simp at hj
    rw [Nat.zero_add, (h j hj).1]
    simp [List.getD, hj]
theorem Row8.of_owns {base g n cap : Nat} {w : World} {xs : List Value} {f : Nat → Int} (h : w.ownsRow base 5 1 (.slice (some ⟨g, 0, none⟩) n cap) n xs) (hx : ∀ j, j < n → xs[j]? = some (.int .u8 (f j))) : Row8 g n f w := by
  rcases h.2 with ⟨e, _⟩ | ⟨g', cap', cur, e, hg, hb, hn, hm, hs, ht⟩
  · cases e
  · cases e
    intro j hj
    have e1 := hx j hj
    rw [← ht, Nat.mul_one, List.getElem?_take_of_lt hj] at e1
    refine ⟨by simp only [World.cell?, hb]; simpa using e1, by simp [World.frozen?, hb]⟩
theorem made8_zero (n j : Nat) (hj : j < n) : (madeCells (Value.int .u8 0).cells (n * 1)).toList[j]? = some (.int .u8 0) := by
  simp [madeCells, hj, Value.cells, Nat.mod_one]
/-- A slice of integers that came in: nil; or a row of 'cap' cells, the numbers zs, the first len of which are its elements. -/
theorem bys8_of_row {w : World} {a : Option Addr} {len cap : Nat} {zs : List Int} (h : IsRow .u8 w a len cap zs) :
    ∃ xs : List Int, xs.length = len ∧ Bys8 w.heap.size w (.slice a len cap) xs := by
  rcases h with ⟨rfl, rfl, rfl, rfl⟩ | ⟨x, rfl, hl, hm, hz, hcell, hwf⟩
  · exact ⟨[], rfl, by simp, .inl ⟨rfl, none, 0, rfl⟩⟩
  · by_cases h0 : len = 0
    · subst h0
      exact ⟨[], rfl, by simp, .inl ⟨rfl, some x, cap, rfl⟩⟩
    · obtain ⟨b, off, rfl, hc⟩ := ints_at hcell (by omega)
      have hb : b < w.heap.size := World.block_lt_of_cell? w _ (hc 0 (by omega))
      refine ⟨zs.take len, by simp; omega, fun n hn => bounds_u8 (hwf n (List.mem_of_mem_take hn)), .inr ⟨b, off, cap, by simp; omega, hb, fun j hj => ?_⟩⟩
      have hj' : j < len := by simp at hj; omega
      have hjz : j < zs.length := by omega
      rw [hc j hjz]
      simp [List.getD, hj', hjz]
theorem others8_of_below {W W' : World} (h : Below W.heap.size W W') : KeepsOthers W W' := ⟨h.size, fun k o hk _ => (h.block k (Array.getElem?_eq_some_iff.1 hk).1).trans hk⟩
/-- The box holds a slice that is the call's own row of just the numbers that came. -/
def Holds8 (n₀ B : Nat) (xs : List Int) (W : World) : Prop := ∃ v, Boxed W B 28 v ∧ Own8 n₀ W v xs
theorem holds8_own (n₀ B : Nat) {β : Type} (f : β → List Int) : Own (fun (s : β) W => Holds8 n₀ B (f s) W) := by
  intro s X Y row h hg hrow
  obtain ⟨v, hb, hx, ho⟩ := h
  obtain ⟨v', hb', ho', _⟩ := holdsRow_own n₀ B 28 5 1 (fun _ : Unit => (f s).length) (fun _ => vals8 (f s)) (fun _ u => u = v) () X Y row ⟨v, hb, ho, rfl⟩ hg hrow
  obtain rfl := ‹v' = v›
  exact ⟨v', hb', hx, ho'⟩
end Go.Proofs.YtmeamdfmcpkofaaDoor
