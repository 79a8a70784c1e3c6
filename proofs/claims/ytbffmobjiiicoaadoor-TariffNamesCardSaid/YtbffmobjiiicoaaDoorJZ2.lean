/- Joined: SI ZInst ZOpen. -/
import Derived.Test.YtbffmobjiiicoaaDoorJZ
import Derived.Test.YtbffmobjiiicoaaDoorProg
import Derived.RangeFuncNested
import Derived.RangeFuncBox
import Derived.OpenShut
import Derived.Maps.AppendAt
import Derived.Laws.OwnMore
import Derived.Laws.BytesArg
import Derived.RegionTactic
import Derived.OwnWalk
import Derived.OwnWalkIn
import Derived.Below
import Derived.WalkKit
import Derived.Shelf.Abstract
import Derived.Lib.Hide
import Derived.Deep.Slices
import Derived.Deep.MidRow
import Derived.Deep.SlicePairs
section
/- Slices of int64 as lists: what came in, what the call made, appending. -/
set_option linter.unusedVariables false
namespace Go.Proofs.YtbffmobjiiicoaaDoor
open Go.RowKit Go.Shelf
/-- A slice of integers that came in: nil; or a row of 'cap' cells, the numbers zs, the first len of which are its elements. -/
def IsRow (k : IntKind) (w : World) (a : Option Addr) (len cap : Nat) (zs : List Int) : Prop :=
  (a = none ∧ len = 0 ∧ cap = 0 ∧ zs = []) ∨
  ∃ x, a = some x ∧ len ≤ cap ∧ cap ≤ maxLen ∧ zs.length = cap ∧ (∀ i, i < zs.length → w.cell? (x.add i) = some (.int k (zs.getD i 0))) ∧ ∀ n ∈ zs, (Lit.int k n).wf = true
/-- The slice value sv holds the numbers xs, in a block below n₀; or there are none. -/
def BysI (n₀ : Nat) (W : World) (sv : Value) (xs : List Int) : Prop :=
  (∀ x ∈ xs, -9223372036854775808 ≤ x ∧ x < 9223372036854775808) ∧ ((xs = [] ∧ ∃ a cap, sv = .slice a 0 cap) ∨ ∃ b off cap, sv = .slice (some ⟨b, off, none⟩) xs.length cap ∧ b < n₀ ∧ ∀ j, j < xs.length → W.cell? ⟨b, off + j, none⟩ = some (.int .i64 (xs.getD j 0)))
theorem BysI.below {n₀ : Nat} {A B : World} (h : Below n₀ A B) {sv : Value} {xs : List Int} : BysI n₀ A sv xs → BysI n₀ B sv xs
  | ⟨hr, .inl e⟩ => ⟨hr, .inl e⟩
  | ⟨hr, .inr ⟨b, off, cap, e, hb, hc⟩⟩ => ⟨hr, .inr ⟨b, off, cap, e, hb, fun j hj => (h.cell (p := ⟨b, off + j, none⟩) hb).trans (hc j hj)⟩⟩
theorem BysI.mono {n₀ n₁ : Nat} (h : n₀ ≤ n₁) {W : World} {sv : Value} {xs : List Int} : BysI n₀ W sv xs → BysI n₁ W sv xs
  | ⟨hr, .inl e⟩ => ⟨hr, .inl e⟩
  | ⟨hr, .inr ⟨b, off, cap, e, hb, hc⟩⟩ => ⟨hr, .inr ⟨b, off, cap, e, Nat.lt_of_lt_of_le hb h, hc⟩⟩
theorem BysI.is {n₀ : Nat} {W : World} {sv : Value} {xs : List Int} : BysI n₀ W sv xs → ∃ a cap, sv = .slice a xs.length cap
  | ⟨_, .inl ⟨e, a, cap, h⟩⟩ => ⟨a, cap, by rw [e]; exact h⟩
  | ⟨_, .inr ⟨b, off, cap, e, _, _⟩⟩ => ⟨_, cap, e⟩
theorem BysI.bd {n₀ : Nat} {W : World} {sv : Value} {xs : List Int} (h : BysI n₀ W sv xs) (j : Nat) : -9223372036854775808 ≤ xs.getD j 0 ∧ xs.getD j 0 < 9223372036854775808 := by
  by_cases hj : j < xs.length
  · exact h.1 _ (by simp [List.getD, hj])
  · rw [show xs.getD j 0 = 0 by simp [List.getD, hj]]; omega
theorem BysI.take {B : Nat} {w : World} {a : Option Addr} {len cap : Nat} {xs : List Int} (h : BysI B w (.slice a len cap) xs) (n : Nat) (hn : n ≤ xs.length) : BysI B w (.slice a n cap) (xs.take n) := by
  obtain ⟨hr, h⟩ := h
  refine ⟨fun x hx => hr x (List.mem_of_mem_take hx), ?_⟩
  rcases Nat.eq_zero_or_pos n with rfl | h0
  · exact .inl ⟨by simp, a, cap, rfl⟩
  · rcases h with ⟨rfl, _⟩ | ⟨b, off, cap', e, hb, hc⟩
    · simp at hn; omega
    · cases e
      refine .inr ⟨b, off, cap, by rw [List.length_take, Nat.min_eq_left hn], hb, fun j hj => ?_⟩
      have hj' : j < n := by simp at hj; omega
      rw [hc j (by omega)]
      simp [List.getD, List.getElem?_take_of_lt hj']
theorem BysI.drop {B : Nat} {w : World} {b off len cap : Nat} {xs : List Int} (h : BysI B w (.slice (some ⟨b, off, none⟩) len cap) xs) (n : Nat) (hn : n < xs.length) (c : Nat) : BysI B w (.slice (some ⟨b, off + n, none⟩) (xs.length - n) c) (xs.drop n) := by
  obtain ⟨hr, h⟩ := h
  refine ⟨fun x hx => hr x (List.mem_of_mem_drop hx), ?_⟩
  rcases h with ⟨rfl, _⟩ | ⟨b', off', cap', e, hb, hc⟩
  · simp at hn
  · cases e
    refine .inr ⟨b, off + n, c, by rw [List.length_drop], hb, fun j hj => ?_⟩
    rw [List.length_drop] at hj
    have := hc (n + j) (by omega)
    rw [Nat.add_assoc, this]
    simp [List.getD]
theorem bysI_nil (n₀ : Nat) (w : World) (a : Option Addr) (cap : Nat) : BysI n₀ w (.slice a 0 cap) [] := ⟨by simp, .inl ⟨rfl, a, cap, rfl⟩⟩
theorem bounds_i64 {n : Int} (h : (Lit.int .i64 n).wf = true) : -9223372036854775808 ≤ n ∧ n < 9223372036854775808 := by
  simp [Lit.wf, IntKind.min, IntKind.max, IntKind.bits, IntKind.signed] at h; omega
def valsI (xs : List Int) : List Value := xs.map (Value.int .i64)
theorem valsI_len (xs : List Int) : (valsI xs).length = xs.length := by simp [valsI]
theorem valsI_app (xs ys : List Int) : valsI xs ++ valsI ys = valsI (xs ++ ys) := by simp [valsI]
theorem valsI_one (xs : List Int) : ∀ u ∈ valsI xs, u.oneCell' = true := by
  intro u hu; simp [valsI] at hu; obtain ⟨n, _, rfl⟩ := hu; rfl
theorem valsI_get (xs : List Int) (j : Nat) (h : j < xs.length) : (valsI xs)[j]? = some (.int .i64 (xs.getD j 0)) := by simp [valsI, h, List.getD]
/-- The slice value v is the call's own row of just the numbers xs, in a block from 'base' on; or nil, and there are none. -/
def OwnI (base : Nat) (w : World) (v : Value) (xs : List Int) : Prop := (∀ x ∈ xs, -9223372036854775808 ≤ x ∧ x < 9223372036854775808) ∧ w.ownsRow base 2 1 v xs.length (valsI xs)
theorem OwnI.nil (base : Nat) (w : World) : OwnI base w (.slice none 0 0) [] := ⟨by simp, by simp [valsI], .inl ⟨rfl, rfl⟩⟩
theorem OwnI.form {base : Nat} {w : World} {v : Value} {xs : List Int} (h : OwnI base w v xs) : ∃ a c, v = .slice a xs.length c := by
  rcases h.2.2 with ⟨rfl, e⟩ | ⟨g, cap, cur, rfl, _⟩
  · exact ⟨none, 0, by rw [e]⟩
  · exact ⟨_, cap, rfl⟩
theorem OwnI.at_ {base : Nat} {w : World} {a : Option Addr} {n c : Nat} {xs : List Int} (h : OwnI base w (.slice a n c) xs) (h0 : 0 < n) : ∃ g, a = some ⟨g, 0, none⟩ ∧ base ≤ g ∧ g < w.heap.size := by
  rcases h.2.2 with ⟨e, e2⟩ | ⟨g, cap, cur, e, hg, hb, _⟩
  · cases e; omega
  · cases e; exact ⟨g, rfl, hg, (Array.getElem?_eq_some_iff.1 hb).1⟩
theorem OwnI.bys {base : Nat} {w : World} {v : Value} {xs : List Int} (h : OwnI base w v xs) : BysI w.heap.size w v xs := by
  refine ⟨h.1, ?_⟩
  rcases h.2.2 with ⟨rfl, e⟩ | ⟨g, cap, cur, rfl, hg, hb, hn, hm, hs, ht⟩
  · exact .inl ⟨List.eq_nil_of_length_eq_zero e, none, 0, rfl⟩
  · refine .inr ⟨g, 0, cap, rfl, (Array.getElem?_eq_some_iff.1 hb).1, fun j hj => ?_⟩
    have e1 := valsI_get xs j hj
    rw [← ht, Nat.mul_one, List.getElem?_take_of_lt hj] at e1
    simp only [World.cell?, hb, Nat.zero_add]
    simpa using e1
theorem OwnI.row {base : Nat} {w : World} {v : Value} {xs : List Int} (h : OwnI base w v xs) : ∀ k, v.ownBlock = some k → base ≤ k := by
  intro k hk
  rcases h.2.2 with ⟨rfl, e⟩ | ⟨g, cap, cur, rfl, hg, _⟩
  · simp [Value.ownBlock] at hk
  · simp [Value.ownBlock] at hk; omega
theorem OwnI.cap {base n c : Nat} {a : Option Addr} {w : World} {xs : List Int} (h : OwnI base w (.slice a n c) xs) : n ≤ c := by
  rcases h.2.2 with ⟨e, e2⟩ | ⟨g, cap, cur, e, hg, hb, hn, _⟩
  · cases e; exact Nat.zero_le _
  · cases e; exact hn
theorem OwnI.le {base base' : Nat} {w : World} {v : Value} {xs : List Int} (h : OwnI base w v xs) (hb : base' ≤ base) : OwnI base' w v xs :=
  ⟨h.1, h.2.1, h.2.2.elim Or.inl (fun ⟨g, cap, cur, hv, hg, r⟩ => Or.inr ⟨g, cap, cur, hv, Nat.le_trans hb hg, r⟩)⟩
theorem OwnI.below {base B : Nat} {w w' : World} {v : Value} {xs : List Int} (h : OwnI base w v xs) (hb : Below B w w') (hB : w.heap.size ≤ B) : OwnI base w' v xs := by
  refine ⟨h.1, h.2.1, ?_⟩
  rcases h.2.2 with e | ⟨g, cap, cur, rfl, hg, hh, r⟩
  · exact .inl e
  · have hlt : g < w.heap.size := (Array.getElem?_eq_some_iff.1 hh).1
    exact .inr ⟨g, cap, cur, rfl, hg, (hb.block g (by omega)).trans hh, r⟩
theorem OwnI.empty (w : World) : OwnI w.heap.size (w.alloc (.cells #[] 2)) (.slice (some ⟨w.heap.size, 0, none⟩) 0 0) [] := by
  refine ⟨by simp, by simp [valsI], .inr ⟨w.heap.size, 0, #[], rfl, Nat.le_refl _, World.alloc_heap_new w _, Nat.le_refl _, by simp [maxLen], by simp, by simp [valsI]⟩⟩
theorem infoI : (Tryd.prog.info? 2).map (fun i => (i.zero, i.size, i.bytes)) = some (some (.int .i64 0), 1, 8) := by kernel_rfl
theorem partsI : ∃ i, Tryd.prog.info? 2 = some i ∧ i.zero = some (.int .i64 0) ∧ i.size = 1 ∧ i.bytes = 8 := by
  have h := infoI
  cases hi : Tryd.prog.info? 2 with
  | none => rw [hi] at h; cases h
  | some i => rw [hi] at h; simp at h; exact ⟨i, rfl, h.1, h.2.1, h.2.2⟩
/-- Appending, told in full. -/
theorem run_bappI_row (base ty : Nat) (w : World) (v : Value) (ys : List Int) (hown : OwnI base w v ys) (B : Nat) (A : Option Addr) (m c : Nat) (xs : List Int) (hb : BysI B w (.slice A m c) xs)
    (hlen : ys.length + xs.length ≤ 10000000000000) (hbase : base ≤ w.heap.size) :
    ∃ v' w', (Builtin.append_ #[42, 42] ty #[v, .slice A m c]).run Tryd.prog w = .ok v' w' ∧ OwnI base w' v' (ys ++ xs) ∧ w.grownBy w' v.ownBlock := by
  obtain ⟨i, hi, hz, hs, hby⟩ := partsI
  obtain ⟨hr, hb⟩ := hb
  have main : ∀ (ad : Addr), A = some ad → m = xs.length → (∀ j u, (valsI xs)[j]? = some u → w.cell? (ad.add j) = some u) →
      ∃ v' w', (Builtin.append_ #[42, 42] ty #[v, .slice A m c]).run Tryd.prog w = .ok v' w' ∧ OwnI base w' v' (ys ++ xs) ∧ w.grownBy w' v.ownBlock := by
    rintro ad rfl rfl hc
    obtain ⟨v', w', hrun, h2, h3, _, _⟩ := run_append_own_at (P := Tryd.prog) w base 42 ty 2 i (.int .i64 0) 1 8 Tryd.underlying42 hi hz hs hby rfl (by decide) v ys.length (valsI ys) hown.2 ad xs.length c (valsI xs) (by simp [valsI]) hc (valsI_one xs)
      (by unfold maxLen; omega) (by omega) hbase
    refine ⟨v', w', hrun, ⟨?_, by rw [List.length_append, ← valsI_app]; exact h2⟩, h3⟩
    intro x hx
    rcases List.mem_append.1 hx with h | h
    · exact hown.1 x h
    · exact hr x h
  rcases hb with ⟨rfl, a, cap, e⟩ | ⟨b, off, cap, e, hB, hcs⟩
  · cases e
    rcases A with _ | ad
    · refine ⟨v, w, ?_, by simpa using hown, World.grownBy.refl w _⟩
      rcases hown.2.2 with ⟨rfl, _⟩ | ⟨g, cap, cur, rfl, _, _, hnc, _⟩
      · simp [Builtin.append_, run_underlying Tryd.underlying42, sizeOf, typeInfo, hi, Builtin.lenOf, Builtin.firstCells]
      · simp [Builtin.append_, run_underlying Tryd.underlying42, sizeOf, typeInfo, hi, Builtin.lenOf, Builtin.firstCells, hnc, storeCells]
    · exact main ad rfl rfl (by intro j u h; simp [valsI] at h)
  · cases e
    refine main _ rfl rfl ?_
    intro j u h
    have hj : j < xs.length := by
      have := (List.getElem?_eq_some_iff.1 h).1; simpa [valsI] using this
    rw [valsI_get xs j hj] at h
    cases h
    have hplain : (⟨b, off, none⟩ : Addr).add j = ⟨b, off + j, none⟩ := by unfold Addr.add; split <;> simp_all
    rw [hplain]
    exact hcs j hj
theorem run_bappI (base ty : Nat) (w : World) (v : Value) (ys : List Int) (hown : OwnI base w v ys) (B : Nat) (A : Option Addr) (m c : Nat) (xs : List Int) (hb : BysI B w (.slice A m c) xs)
    (hlen : ys.length + xs.length ≤ 10000000000000) (hbase : base ≤ w.heap.size) :
    ∃ v' w', (Builtin.append_ #[42, 42] ty #[v, .slice A m c]).run Tryd.prog w = .ok v' w' ∧ OwnI base w' v' (ys ++ xs) ∧ Below base w w' := by
  obtain ⟨v', w', h1, h2, h3⟩ := run_bappI_row base ty w v ys hown B A m c xs hb hlen hbase
  exact ⟨v', w', h1, h2, (Below.refl _ _).grown h3 hbase hown.row⟩
theorem wpList_bappI {w : World} {ops : Array Oper} {rest : List Oper} {o : Oper} {a : Act} {Q : Exit → Act → World → Prop} (hgd : o.guard = none) (s x : Operand)
    (ho : o.op = .call { callee := .builtin .append, args := #[s, x], argTypes := #[42, 42] })
    (base : Nat) (v : Value) (ys : List Int) (hs : a.eval s = v) (hown : OwnI base w v ys) (B : Nat) (A : Option Addr) (m c : Nat) (xs : List Int) (hx : a.eval x = .slice A m c) (hb : BysI B w (.slice A m c) xs)
    (hlen : ys.length + xs.length ≤ 10000000000000) (hbase : base ≤ w.heap.size)
    (h : ∀ a' c' w', OwnI base w' (.slice a' (ys ++ xs).length c') (ys ++ xs) → Below base w w' → wpList Tryd.prog ops Q rest (a.put o.dst (.slice a' (ys ++ xs).length c')) w') : wpList Tryd.prog ops Q (o :: rest) a w := by
  refine wpList_plain hgd fun K hK => ?_
  obtain ⟨v', w', hrun, h2, h3⟩ := run_bappI base o.type w v ys hown B A m c xs hb hlen hbase
  obtain ⟨a', c', rfl⟩ := h2.form
  unfold Oper.wp execOp
  simp only [ho, resolve, invoke, builtin, Sem.run_bind, Sem.run_pure, Result.andThen_ok, List.map_toArray, List.map_cons, List.map_nil, hs, hx, hrun]
  exact hK _ _ (h a' c' w' h2 h3)
theorem wpListIn_bappI {F : Fence} {n : Nat} {w : World} {ops : Array Oper} {rest : List Oper} {o : Oper} {a : Act} {Q : Exit → Act → World → Prop} (hgd : o.guard = none) (s x : Operand)
    (ho : o.op = .call { callee := .builtin .append, args := #[s, x], argTypes := #[42, 42] })
    (base : Nat) (v : Value) (ys : List Int) (hs : a.eval s = v) (hown : OwnI base w v ys) (B : Nat) (A : Option Addr) (m c : Nat) (xs : List Int) (hx : a.eval x = .slice A m c) (hb : BysI B w (.slice A m c) xs)
    (hlen : ys.length + xs.length ≤ 10000000000000) (hbase : base ≤ w.heap.size)
    (h : ∀ a' c' w', OwnI base w' (.slice a' (ys ++ xs).length c') (ys ++ xs) → w.grownBy w' v.ownBlock → wpListIn F n Tryd.prog ops Q rest (a.put o.dst (.slice a' (ys ++ xs).length c')) w') : wpListIn F n Tryd.prog ops Q (o :: rest) a w := by
  refine wpListIn_plain hgd fun K hK => ?_
  obtain ⟨v', w', hrun, h2, h3⟩ := run_bappI_row base o.type w v ys hown B A m c xs hb hlen hbase
  obtain ⟨a', c', rfl⟩ := h2.form
  unfold Oper.wpIn
  refine ⟨?_, ?_⟩
  · simp [Oper.about, ho, resolve, Target.leads, Sem.run_pure]
  · rw [Oper.semAt_plain F _ _ (by rw [ho]; intro c hc'; cases hc')]
    simp [execOp, ho, resolve, invoke, builtin, hs, hx, hrun, Result.andThen]
    have hh := h a' c' w' h2 h3
    rw [List.length_append] at hh
    exact hK _ _ hh
theorem bysI_alloc {T : TypeId} (w : World) (xs : List Int) (hx : ∀ x ∈ xs, -9223372036854775808 ≤ x ∧ x < 9223372036854775808) (vs : Array Value) (hv : vs = (valsI xs).toArray) (n cap : Nat) (hn : n = xs.length) (fr : Nat × Nat) :
    BysI (w.alloc (.cells vs T fr)).heap.size (w.alloc (.cells vs T fr)) (.slice (some ⟨w.heap.size, 0, none⟩) n cap) xs := by
  subst hv hn
  refine ⟨hx, .inr ⟨w.heap.size, 0, cap, rfl, by simp, fun j hj => ?_⟩⟩
  simp only [World.cell?, World.alloc_heap_new]
  simp [List.getD, hj, valsI]
/-- The cells 0 .. n - 1 of block g are f 0 .. f (n - 1), and may be written. -/
def RowI (g n : Nat) (f : Nat → Int) (w : World) : Prop := ∀ j, j < n → w.cell? ⟨g, j, none⟩ = some (.int .i64 (f j)) ∧ w.frozen? ⟨g, j, none⟩ = false
theorem RowI.set {g n : Nat} {f : Nat → Int} {w : World} (h : RowI g n f w) (k : Nat) (v : Int) : RowI g n (fun j => if j = k then v else f j) (w.setCell ⟨g, k, none⟩ (.int .i64 v)) := by
  intro j hj
  refine ⟨?_, (World.frozen?_setCell _ _ _ _).trans (h j hj).2⟩
  by_cases e : j = k
  · subst e
    simp only [if_true]
    exact World.cell?_setCell_same _ _ _ (h j hj).1
  · simp only [e, if_false]
    exact (World.cell?_setCell_other _ _ _ _ (fun q => e (by injection q with _ q2 _; exact q2.symm))).trans (h j hj).1
theorem RowI.congr {g n : Nat} {f f' : Nat → Int} {w : World} (h : RowI g n f w) (he : ∀ j, j < n → f j = f' j) : RowI g n f' w :=
  fun j hj => ⟨by rw [← he j hj]; exact (h j hj).1, (h j hj).2⟩
theorem RowI.drew {g n : Nat} {f : Nat → Int} {w : World} (h : RowI g n f w) : RowI g n f w.drew := h
theorem RowI.below {g n B : Nat} {f : Nat → Int} {w w' : World} (h : RowI g n f w) (hb : Below B w w') (hg : g < B) : RowI g n f w' :=
  fun j hj => ⟨(hb.cell (p := ⟨g, j, none⟩) hg).trans (h j hj).1, (hb.frozen (p := ⟨g, j, none⟩) hg).trans (h j hj).2⟩
theorem RowI.bys {g n : Nat} {f : Nat → Int} {w : World} (h : RowI g n f w) (hf : ∀ j, j < n → -9223372036854775808 ≤ f j ∧ f j < 9223372036854775808) (hg : g < w.heap.size) (cap : Nat) : BysI w.heap.size w (.slice (some ⟨g, 0, none⟩) n cap) ((List.range n).map f) := by
  refine ⟨?_, .inr ⟨g, 0, cap, by simp, hg, ?_⟩⟩
  · intro x hx
    simp only [List.mem_map, List.mem_range] at hx
    obtain ⟨j, hj, rfl⟩ := hx
    exact hf j hj
  · intro j hj
    simp at hj
    rw [Nat.zero_add, (h j hj).1]
    simp [List.getD, hj]
theorem RowI.of_owns {base g n cap : Nat} {w : World} {xs : List Value} {f : Nat → Int} (h : w.ownsRow base 2 1 (.slice (some ⟨g, 0, none⟩) n cap) n xs) (hx : ∀ j, j < n → xs[j]? = some (.int .i64 (f j))) : RowI g n f w := by
  rcases h.2 with ⟨e, _⟩ | ⟨g', cap', cur, e, hg, hb, hn, hm, hs, ht⟩
  · cases e
  · cases e
    intro j hj
    have e1 := hx j hj
    rw [← ht, Nat.mul_one, List.getElem?_take_of_lt hj] at e1
    refine ⟨by simp only [World.cell?, hb]; simpa using e1, by simp [World.frozen?, hb]⟩
theorem madeI_zero (n j : Nat) (hj : j < n) : (madeCells (Value.int .i64 0).cells (n * 1)).toList[j]? = some (.int .i64 0) := by
  simp [madeCells, hj, Value.cells, Nat.mod_one]
/-- A slice of integers that came in: nil; or a row of 'cap' cells, the numbers zs, the first len of which are its elements. -/
theorem bysI_of_row {w : World} {a : Option Addr} {len cap : Nat} {zs : List Int} (h : IsRow .i64 w a len cap zs) :
    ∃ xs : List Int, xs.length = len ∧ BysI w.heap.size w (.slice a len cap) xs := by
  rcases h with ⟨rfl, rfl, rfl, rfl⟩ | ⟨x, rfl, hl, hm, hz, hcell, hwf⟩
  · exact ⟨[], rfl, by simp, .inl ⟨rfl, none, 0, rfl⟩⟩
  · by_cases h0 : len = 0
    · subst h0
      exact ⟨[], rfl, by simp, .inl ⟨rfl, some x, cap, rfl⟩⟩
    · obtain ⟨b, off, rfl, hc⟩ := ints_at hcell (by omega)
      have hb : b < w.heap.size := World.block_lt_of_cell? w _ (hc 0 (by omega))
      refine ⟨zs.take len, by simp; omega, fun n hn => bounds_i64 (hwf n (List.mem_of_mem_take hn)), .inr ⟨b, off, cap, by simp; omega, hb, fun j hj => ?_⟩⟩
      have hj' : j < len := by simp at hj; omega
      have hjz : j < zs.length := by omega
      rw [hc j hjz]
      simp [List.getD, hj', hjz]
theorem othersI_of_below {W W' : World} (h : Below W.heap.size W W') : KeepsOthers W W' := ⟨h.size, fun k o hk _ => (h.block k (Array.getElem?_eq_some_iff.1 hk).1).trans hk⟩
/-- The box holds a slice that is the call's own row of just the numbers that came. -/
def HoldsI (n₀ B : Nat) (xs : List Int) (W : World) : Prop := ∃ v, Boxed W B 42 v ∧ OwnI n₀ W v xs
theorem holdsI_own (n₀ B : Nat) {β : Type} (f : β → List Int) : Own (fun (s : β) W => HoldsI n₀ B (f s) W) := by
  intro s X Y row h hg hrow
  obtain ⟨v, hb, hx, ho⟩ := h
  obtain ⟨v', hb', ho', _⟩ := holdsRow_own n₀ B 42 2 1 (fun _ : Unit => (f s).length) (fun _ => valsI (f s)) (fun _ u => u = v) () X Y row ⟨v, hb, ho, rfl⟩ hg hrow
  obtain rfl := ‹v' = v›
  exact ⟨v', hb', hx, ho'⟩
end Go.Proofs.YtbffmobjiiicoaaDoor
end
section
/- The document's Instants: what is there before the walk. -/
set_option linter.unusedVariables false
set_option linter.unusedSimpArgs false
namespace Go.Proofs.YtbffmobjiiicoaaDoor
open Go.RowKit Go.Shelf
theorem elem64 : Tryd.prog.elem 42 = 2 := by kernel_rfl
theorem size64 (W : World) : (sizeOf 2).run Tryd.prog W = .ok 1 W := by
  obtain ⟨i, hi, _, hs, _⟩ := partsI
  simp [sizeOf, typeInfo, hi, hs]
theorem slice_to (W : World) (a : Option Addr) (len c p : Nat) (hp : p ≤ c) : (Instr.slice 42 (.slice a len c) none (some (.int .i64 (p : Int))) none).run Tryd.prog W = .ok (.slice a p c) W := by
  rw [run_slice_h W 42 a len c (by rw [elem64]; exact Tryd.underlying42) .i64 p (by omega) (by omega), elem64, size64]
  simp [Result.andThen, sliced]
  intro _
  cases a <;> simp [Addr.add]
theorem slice_from {base : Nat} {W : World} {a : Option Addr} {n c : Nat} {xs : List Int} (h : OwnI base W (.slice a n c) xs) (hn : n = xs.length) (p : Nat) (hp : p ≤ n) :
    ∃ A m c', (Instr.slice 42 (.slice a n c) (some (.int .i64 (p : Int))) none none).run Tryd.prog W = .ok (.slice A m c') W ∧ BysI W.heap.size W (.slice A m c') (xs.drop p) := by
  rw [run_slice_l W 42 a n c (by rw [elem64]; exact Tryd.underlying42) .i64 p (by omega) (by omega), elem64, size64]
  simp only [Result.andThen, sliced]
  by_cases hpn : p = n
  · subst hpn
    refine ⟨_, _, _, rfl, ?_⟩
    simp only [Int.toNat_natCast, Nat.sub_self]
    rw [List.drop_of_length_le (by omega)]
    exact bysI_nil _ _ _ _
  · obtain ⟨g, rfl, hg, hlt⟩ := h.at_ (by omega)
    have hc := h.cap
    have hb := h.bys
    subst hn
    refine ⟨some ⟨g, p, none⟩, xs.length - p, c - p, ?_, ?_⟩
    · simp only [Int.toNat_natCast, Option.map_some, Nat.mul_one]
      rw [if_neg (by omega), Go.Addr.add_mid, Nat.zero_add]
    · have := hb.drop p (by omega) (c - p)
      rw [Nat.zero_add] at this
      exact this
theorem drop_ok {base : Nat} {W : World} {a : Option Addr} {n c : Nat} {xs : List Int} (h : OwnI base W (.slice a n c) xs) : n = xs.length := by
  obtain ⟨a', c', e⟩ := h.form
  cases e
  rfl
/-- The offset by the k-th rule's extra; by none for 0. -/
def nK (off : Int) (R : Nat → Rl) (k : Nat) : Int := if k = 0 then off else off + (R (k - 1)).x
instance (off : Int) (R : Nat → Rl) (len : Nat) (t : Int) : Decidable (OffIs off R len t) := by unfold OffIs; infer_instance
def offT (off : Int) (R : Nat → Rl) (len : Nat) (t : Int) : Int := nOf off R len (yearI (t + off)) (t + off)
def hitK (off : Int) (R : Nat → Rl) (len : Nat) (loc : Int) (k : Nat) : Prop := OffIs off R len (loc - nK off R k) ∧ offT off R len (loc - nK off R k) = nK off R k
instance (off : Int) (R : Nat → Rl) (len : Nat) (loc : Int) (k : Nat) : Decidable (hitK off R len loc k) := by unfold hitK; infer_instance
def placeI (l : List Int) (t : Int) : Nat := (l.takeWhile (fun x => decide (x < t))).length
def insI (l : List Int) (t : Int) : List Int := if placeI l t < l.length ∧ l.getD (placeI l t) 0 = t then l else l.take (placeI l t) ++ [t] ++ l.drop (placeI l t)
def stepI (off : Int) (R : Nat → Rl) (len : Nat) (loc : Int) (k : Nat) (l : List Int) : List Int := if hitK off R len loc k then insI l (loc - nK off R k) else l
def runI (off : Int) (R : Nat → Rl) (len : Nat) (loc : Int) : Nat → List Int → List Int
  | 0, l => l
  | j + 1, l => runI off R len loc j (stepI off R len loc j l)
theorem place_is {l : List Int} {t : Int} {p : Nat} (hp : p ≤ l.length) (h : ∀ q, q < p → l.getD q 0 < t) (hn : p = l.length ∨ ¬ l.getD p 0 < t) : placeI l t = p := by
  unfold placeI
  induction l generalizing p with
  | nil => simp at hp; simp [hp]
  | cons x l ih =>
    cases p with
    | zero =>
      have : ¬ x < t := by simpa using hn
      rw [List.takeWhile_cons_of_neg (by simpa using this)]; rfl
    | succ p =>
      have hx : x < t := by simpa using h 0 (by omega)
      rw [List.takeWhile_cons_of_pos (by simpa using hx), List.length_cons, ih (p := p) (by simpa using hp) (fun q hq => by simpa using h (q + 1) (by omega)) (by simpa using hn)]
theorem placeI_le (l : List Int) (t : Int) : placeI l t ≤ l.length := by
  unfold placeI
  exact (List.takeWhile_sublist _).length_le
theorem insI_le (l : List Int) (t : Int) : (insI l t).length ≤ l.length + 1 := by
  unfold insI
  split
  · omega
  · simp; omega
theorem own_cell {base : Nat} {W : World} {a : Option Addr} {n c : Nat} {xs : List Int} (h : OwnI base W (.slice a n c) xs) (p : Nat) (hp : p < xs.length) : ∃ g, a = some ⟨g, 0, none⟩ ∧ W.cell? ⟨g, p, none⟩ = some (.int .i64 (xs.getD p 0)) := by
  have hn := drop_ok h
  obtain ⟨g, rfl, _, _⟩ := h.at_ (by omega)
  obtain ⟨_, ⟨rfl, _⟩ | ⟨b, off, cap', e, hb, hc⟩⟩ := h.bys
  · simp at hp
  · cases e
    have := hc p hp
    rw [Nat.zero_add] at this
    exact ⟨_, rfl, this⟩
end Go.Proofs.YtbffmobjiiicoaaDoor
end
section
/- Zones that came in. -/
namespace Go.Proofs.YtbffmobjiiicoaaDoor
open Go.ChangeShapes Go.WideShapes Go.RowKit
set_option linter.unusedVariables false
section
variable {H : Type} {enc : TypeId × Value → H} {W : World} {base : Nat} {sp : Nat → Bool} {held : Bool} {fuel : Nat}
theorem trod_struct5 {t : TypeId} {f0 f1 f2 f3 f4 : Field} {cs : List Value} {x : DataW H × List MemPlace} (ht : Tryd.prog.underlying t = some (.struct #[f0, f1, f2, f3, f4])) (h : DataW.trod enc Tryd.prog W base sp held fuel t cs = some x) :
    ∃ y0 y1 y2 y3 y4 n, cs.length = Tryd.prog.cellsOf t ∧ DataW.trod enc Tryd.prog W base sp held n f0.type ((cs.drop f0.offset).take (Tryd.prog.cellsOf f0.type)) = some y0 ∧
      DataW.trod enc Tryd.prog W base sp held n f1.type ((cs.drop f1.offset).take (Tryd.prog.cellsOf f1.type)) = some y1 ∧ DataW.trod enc Tryd.prog W base sp held n f2.type ((cs.drop f2.offset).take (Tryd.prog.cellsOf f2.type)) = some y2 ∧
      DataW.trod enc Tryd.prog W base sp held n f3.type ((cs.drop f3.offset).take (Tryd.prog.cellsOf f3.type)) = some y3 ∧ DataW.trod enc Tryd.prog W base sp held n f4.type ((cs.drop f4.offset).take (Tryd.prog.cellsOf f4.type)) = some y4 := by
  obtain ⟨xs, n, _, rfl, hl, hlen, hf⟩ := DataW.trod_struct ht h
  match xs, hlen with
  | [y0, y1, y2, y3, y4], _ => exact ⟨y0, y1, y2, y3, y4, n, hl, by simpa using hf 0 f0 rfl, by simpa using hf 1 f1 rfl, by simpa using hf 2 f2 rfl, by simpa using hf 3 f3 rfl, by simpa using hf 4 f4 rfl⟩
set_option maxRecDepth 100000 in
theorem change_cells {a b c d : Value} {x : DataW H × List MemPlace} (h : DataW.trod enc Tryd.prog W base sp held fuel 127 [a, b, c, d] = some x) : ∃ m w n t : Int, a = .int .i64 m ∧ b = .int .i64 w ∧ c = .int .i64 n ∧ d = .int .i64 t := by
  have k1 : Tryd.prog.cellsOf 3 = 1 := by kernel_rfl
  obtain ⟨y0, y1, y2, y3, n, _, _, h0, h1, h2, h3⟩ := Go.Joins.trod_struct4 Tryd.underlying127 h
  simp only [k1, List.drop, List.take] at h0 h1 h2 h3
  obtain ⟨m, rfl, _⟩ := int_cell h0
  obtain ⟨w, rfl, _⟩ := int_cell h1
  obtain ⟨n, rfl, _⟩ := int_cell h2
  obtain ⟨t, rfl, _⟩ := int_cell h3
  exact ⟨m, w, n, t, rfl, rfl, rfl, rfl⟩
set_option maxRecDepth 100000 in
theorem rule_cells {cs : List Value} {x : DataW H × List MemPlace} (hl : cs.length = 11) (h : DataW.trod enc Tryd.prog W base sp held fuel 129 cs = some x) :
    ∃ r : Rl, cs = [.int .i64 r.f, .int .i64 r.l, .int .i64 r.m1, .int .i64 r.w1, .int .i64 r.n1, .int .i64 r.t1, .int .i64 r.m2, .int .i64 r.w2, .int .i64 r.n2, .int .i64 r.t2, .int .i64 r.x] := by
  have k1 : Tryd.prog.cellsOf 3 = 1 := by kernel_rfl
  have k4 : Tryd.prog.cellsOf 127 = 4 := by kernel_rfl
  match cs, hl with
  | [a, b, c, d, e, f, g, i, j, k, l], _ =>
    obtain ⟨y0, y1, y2, y3, y4, n, _, h0, h1, h2, h3, h4⟩ := trod_struct5 Tryd.underlying129 h
    simp only [k4, List.drop, List.take] at h2 h3
    simp only [k1, List.drop, List.take] at h0 h1 h4
    obtain ⟨f', rfl, _⟩ := int_cell h0
    obtain ⟨l', rfl, _⟩ := int_cell h1
    obtain ⟨m1, w1, n1, t1, rfl, rfl, rfl, rfl⟩ := change_cells h2
    obtain ⟨m2, w2, n2, t2, rfl, rfl, rfl, rfl⟩ := change_cells h3
    obtain ⟨x', rfl, _⟩ := int_cell h4
    exact ⟨⟨f', l', m1, w1, n1, t1, m2, w2, n2, t2, x'⟩, rfl⟩
theorem open_rules {c : Value} {x : DataW H × List MemPlace} (h : DataW.trod enc Tryd.prog W base sp held fuel 27 [c] = some x) :
    ∃ (a : Option Addr) (len cap : Nat) (R : Nat → Rl), c = .slice a len cap ∧ len ≤ cap ∧ cap ≤ maxLen ∧ RulesAt W.heap.size W a len R := by
  rcases Go.Deep.open_slice Tryd.underlying27 h with ⟨hc, _⟩ | ⟨a, len, cap, m, n, D, Pl, hc, _, hl, hm, hmm, _, hx⟩
  · obtain rfl : c = .slice none 0 0 := by simpa using hc
    exact ⟨none, 0, 0, fun _ => ⟨0, 0, 0, 0, 0, 0, 0, 0, 0, 0, 0⟩, rfl, Nat.le_refl _, Nat.zero_le _, fun i hi => absurd hi (Nat.not_lt_zero _)⟩
  · obtain rfl : c = .slice (some a) len cap := by simpa using hc
    have hk : Tryd.prog.cellsOf 129 = 11 := by kernel_rfl
    rw [hk] at hx
    have hlm : len ≤ m := by rw [hmm]; split <;> omega
    have each : ∀ i : Nat, ∃ r : Rl, i < len → ∃ b o, (some a : Option Addr) = some ⟨b, o, none⟩ ∧ b < W.heap.size ∧ RlAt W b (o + i * 11) r := by
      intro i
      by_cases hi : i < len
      · obtain ⟨cs, h1, h2⟩ := hx i (by omega)
        obtain ⟨_, hlen, hcell⟩ := World.cells?_some h1
        obtain ⟨r, rfl⟩ := rule_cells hlen h2
        obtain ⟨b, o, spot⟩ := a
        obtain ⟨cs0, g1, g2⟩ := hx 0 (by omega)
        obtain ⟨_, hlen0, hcell0⟩ := World.cells?_some g1
        obtain ⟨r0, rfl⟩ := rule_cells hlen0 g2
        have c0 := hcell0 0 (by omega)
        have hspot : spot = none := by
          have := World.cell?_spot c0
          simpa [Addr.add] using this
        subst hspot
        simp only [Addr.add_mid] at hcell
        refine ⟨r, fun _ => ⟨b, o, rfl, World.block_lt_of_cell? W _ (hcell 0 (by omega)), hcell 0 (by omega), hcell 1 (by omega), hcell 2 (by omega), hcell 3 (by omega), hcell 4 (by omega), hcell 5 (by omega), hcell 6 (by omega), hcell 7 (by omega), hcell 8 (by omega), hcell 9 (by omega), hcell 10 (by omega)⟩⟩
      · exact ⟨⟨0, 0, 0, 0, 0, 0, 0, 0, 0, 0, 0⟩, fun h => absurd h hi⟩
    obtain ⟨R, hR⟩ := Classical.axiomOfChoice each
    exact ⟨some a, len, cap, R, rfl, hl, hm, hR⟩
theorem cells2 {cs : Array Value} (h : cs.size = 2) : ∃ a b, cs = #[a, b] := by
  obtain ⟨l⟩ := cs
  match l, h with
  | [a, b], _ => exact ⟨a, b, rfl⟩
set_option maxRecDepth 100000 in
theorem open_zone {base2 : Nat} {r : Reach} {v : Value} {d : DataW H} {p : List MemPlace} (hv : Value.okWide Tryd.prog W r base 29 v) (h : DataW.Trod enc Tryd.prog W base2 sp held 29 v d p) :
    ∃ (off : Int) (a : Option Addr) (len cap : Nat) (R : Nat → Rl), v = zoneV off a len cap ∧ In64 off ∧ len ≤ cap ∧ cap ≤ maxLen ∧ RulesAt W.heap.size W a len R := by
  obtain ⟨cs, rfl, hsz⟩ := okWide_struct Tryd.underlying29 hv
  obtain ⟨a, b, rfl⟩ := cells2 (hsz.trans (show Tryd.prog.cellsOf 29 = 2 by kernel_rfl))
  obtain ⟨fuel, hf⟩ := h
  have k1 : Tryd.prog.cellsOf 3 = 1 := by kernel_rfl
  have ks : Tryd.prog.cellsOf 27 = 1 := by kernel_rfl
  obtain ⟨y0, y1, n, _, _, h0, h1⟩ := trod_struct2 Tryd.underlying29 (show DataW.trod enc Tryd.prog W base2 sp held fuel 29 [a, b] = some _ by simpa [Value.cells] using hf)
  simp only [k1, List.drop, List.take] at h0
  simp only [ks, List.drop, List.take] at h1
  obtain ⟨off, rfl, ho⟩ := int_cell h0
  obtain ⟨a, len, cap, R, rfl, hl, hm, hR⟩ := open_rules h1
  exact ⟨off, a, len, cap, R, rfl, ho, hl, hm, hR⟩
end
end Go.Proofs.YtbffmobjiiicoaaDoor
end
