/- Appending where two rows of the call's own stand side by side. -/
import Derived.Test.YtkhhejkemkldgaaDoorS8
import Derived.Test.YtkhhejkemkldgaaDoorSRow
set_option linter.unusedVariables false
namespace Go.Proofs.YtkhhejkemkldgaaDoor
open Go.RowKit Go.Shelf
theorem run_bapp8_full (base ty : Nat) (w : World) (v : Value) (ys : List Int) (hown : Own8 base w v ys) (B : Nat) (A : Option Addr) (m c : Nat) (xs : List Int) (hb : Bys8 B w (.slice A m c) xs)
    (hlen : ys.length + xs.length ≤ 10000000000000) (hbase : base ≤ w.heap.size) :
    ∃ v' w', (Builtin.append_ #[33, 33] ty #[v, .slice A m c]).run Tryd.prog w = .ok v' w' ∧ Own8 base w' v' (ys ++ xs) ∧ w.grownBy w' v.ownBlock ∧ (v'.ownBlock = v.ownBlock ∨ v'.ownBlock = some w.heap.size) := by
  obtain ⟨i, hi, hz, hs, hby⟩ := parts8
  obtain ⟨hr, hb⟩ := hb
  have main : ∀ (ad : Addr), A = some ad → m = xs.length → (∀ j u, (vals8 xs)[j]? = some u → w.cell? (ad.add j) = some u) →
      ∃ v' w', (Builtin.append_ #[33, 33] ty #[v, .slice A m c]).run Tryd.prog w = .ok v' w' ∧ Own8 base w' v' (ys ++ xs) ∧ w.grownBy w' v.ownBlock ∧ (v'.ownBlock = v.ownBlock ∨ v'.ownBlock = some w.heap.size) := by
    rintro ad rfl rfl hc
    obtain ⟨v', w', hrun, h2, h3, _, h5⟩ := run_append_own_at (P := Tryd.prog) w base 33 ty 5 i (.int .u8 0) 1 1 Tryd.underlying33 hi hz hs hby rfl (by decide) v ys.length (vals8 ys) hown.2 ad xs.length c (vals8 xs) (by simp [vals8]) hc (vals8_one xs)
      (by unfold maxLen; omega) (by omega) hbase
    refine ⟨v', w', hrun, ⟨?_, by rw [List.length_append, ← vals8_app]; exact h2⟩, h3, h5⟩
    intro x hx
    rcases List.mem_append.1 hx with h | h
    · exact hown.1 x h
    · exact hr x h
  rcases hb with ⟨rfl, a, cap, e⟩ | ⟨b, off, cap, e, hB, hcs⟩
  · cases e
    rcases A with _ | ad
    · refine ⟨v, w, ?_, by simpa using hown, World.grownBy.refl w _, .inl rfl⟩
      rcases hown.2.2 with ⟨rfl, _⟩ | ⟨g, cap, cur, rfl, _, _, hnc, _⟩
      · simp [Builtin.append_, run_underlying Tryd.underlying33, sizeOf, typeInfo, hi, Builtin.lenOf, Builtin.firstCells]
      · simp [Builtin.append_, run_underlying Tryd.underlying33, sizeOf, typeInfo, hi, Builtin.lenOf, Builtin.firstCells, hnc, storeCells]
    · exact main ad rfl rfl (by intro j u h; simp [vals8] at h)
  · cases e
    refine main _ rfl rfl ?_
    intro j u h
    have hj : j < xs.length := by
      have := (List.getElem?_eq_some_iff.1 h).1; simpa [vals8] using this
    rw [vals8_get xs j hj] at h
    cases h
    have hplain : (⟨b, off, none⟩ : Addr).add j = ⟨b, off + j, none⟩ := by unfold Addr.add; split <;> simp_all
    rw [hplain]
    exact hcs j hj
/-- The two have no block in common. -/
def Dis (u v : Value) : Prop := ∀ k, u.ownBlock = some k → v.ownBlock = some k → False
theorem Dis.symm {u v : Value} (h : Dis u v) : Dis v u := fun k a b => h k b a
theorem Dis.nil (v : Value) : Dis (.slice none 0 0) v := fun k a => by cases a
theorem Own8.kept {base : Nat} {w w' : World} {u v : Value} {xs : List Int} (h : Own8 base w v xs) (hg : w.grownBy w' u.ownBlock) (hd : Dis u v) : Own8 base w' v xs := by
  refine ⟨h.1, h.2.kept hg ?_⟩
  cases hv : v.ownBlock with
  | none => exact .inl rfl
  | some k => exact .inr fun e => hd k e.symm hv
theorem Dis.grow {base n : Nat} {w : World} {u u' v : Value} {ys : List Int} (hd : Dis u v) (hv : Own8 base w v ys) (hn : w.heap.size ≤ n) (h : u'.ownBlock = u.ownBlock ∨ u'.ownBlock = some n) : Dis u' v := fun k hk hk' => by
  rcases h with e | e
  · exact hd k (e.symm.trans hk) hk'
  · have := (hv.2.lt k hk').2
    rw [e] at hk
    injection hk with hk
    omega
theorem grown_of_below {w w' : World} (h : Below w.heap.size w w') (row : Option Nat) : w.grownBy w' row := ⟨h.os, h.tape, h.output, h.size, fun k hk _ => h.block k hk⟩
theorem wpList_bapp8d {w : World} {ops : Array Oper} {rest : List Oper} {o : Oper} {a : Act} {Q : Exit → Act → World → Prop} (hgd : o.guard = none) (s x : Operand)
    (ho : o.op = .call { callee := .builtin .append, args := #[s, x], argTypes := #[33, 33] })
    (base : Nat) (v : Value) (ys : List Int) (hs : a.eval s = v) (hown : Own8 base w v ys) (B : Nat) (A : Option Addr) (m c : Nat) (xs : List Int) (hx : a.eval x = .slice A m c) (hb : Bys8 B w (.slice A m c) xs)
    (hlen : ys.length + xs.length ≤ 10000000000000) (hbase : base ≤ w.heap.size)
    (h : ∀ a' c' w', Own8 base w' (.slice a' (ys ++ xs).length c') (ys ++ xs) → Below base w w' → w.grownBy w' v.ownBlock → ((Value.slice a' (ys ++ xs).length c').ownBlock = v.ownBlock ∨ (Value.slice a' (ys ++ xs).length c').ownBlock = some w.heap.size) → wpList Tryd.prog ops Q rest (a.put o.dst (.slice a' (ys ++ xs).length c')) w') : wpList Tryd.prog ops Q (o :: rest) a w := by
  refine wpList_plain hgd fun K hK => ?_
  obtain ⟨v', w', hrun, h2, h3, h4⟩ := run_bapp8_full base o.type w v ys hown B A m c xs hb hlen hbase
  obtain ⟨a', c', rfl⟩ := h2.form
  unfold Oper.wp execOp
  simp only [ho, resolve, invoke, builtin, Sem.run_bind, Sem.run_pure, Result.andThen_ok, List.map_toArray, List.map_cons, List.map_nil, hs, hx, hrun]
  exact hK _ _ (h a' c' w' h2 ((Below.refl _ _).grown h3 hbase hown.row) h3 h4)
/-- A slice that was made, as a block known whole. -/
theorem at_made {base g : Nat} {w : World} (h : w.ownsRow base 5 1 (.slice (some ⟨g, 0, none⟩) 64 64) 64 (madeCells (Value.int .u8 0).cells (64 * 1)).toList) : At 5 w g (nums .u8 64 fun _ => 0) := by
  rcases h.2 with ⟨e, _⟩ | ⟨g', cap', cur, e, hg, hb, hn, hm, hs, ht⟩
  · cases e
  · cases e
    have e1 : (madeCells (Value.int .u8 0).cells (64 * 1)) = nums .u8 64 fun _ => 0 := by kernel_rfl
    have e2 : cur.toList = (nums .u8 64 fun _ => 0).toList := by
      rw [← e1, ← ht, List.take_of_length_le]
      have : cur.toList.length = cur.size := by simp
      omega
    have e3 : cur = nums .u8 64 fun _ => 0 := by
      have := congrArg List.toArray e2
      simpa using this
    rw [e3] at hb
    exact hb
/-- The first i bytes of a list, noughts behind. -/
def upto (X : List Int) (i j : Nat) : Int := if j < i then bf X j else 0
theorem upto_zero (X : List Int) : nums .u8 64 (fun _ => 0) = nums .u8 64 (upto X 0) := nums_congr fun j _ => by simp [upto]
theorem upto_all (X : List Int) (n : Nat) (h : X.length = n) : nums .u8 64 (upto X n) = nums .u8 64 (bf X) := nums_congr fun j hj => by
  unfold upto
  by_cases h2 : j < n
  · rw [if_pos h2]
  · rw [if_neg h2]
    show (0 : Int) = X.getD j 0
    simp [List.getD, List.getElem?_eq_none (by omega : X.length ≤ j)]
theorem upto_set (X : List Int) (i : Nat) : (fun j => if j = i then bf X i else upto X i j) = upto X (i + 1) := by
  funext j
  unfold upto
  by_cases h : j = i
  · subst h; simp
  · by_cases h2 : j < i
    · simp [h, h2, show j < i + 1 by omega]
    · simp [h, h2, show ¬ j < i + 1 by omega]
theorem takes_snoc (L : List Int) (k : Nat) (h : k < L.length) : L.take k ++ [L.getD k 0] = L.take (k + 1) := by
  rw [List.take_add_one]; simp [List.getD, h]
end Go.Proofs.YtkhhejkemkldgaaDoor
