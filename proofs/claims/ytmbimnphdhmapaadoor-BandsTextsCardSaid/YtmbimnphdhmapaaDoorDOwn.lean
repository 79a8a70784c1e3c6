/- Rows of switches that a call makes. -/
import Derived.Test.YtmbimnphdhmapaaDoorBChk
import Derived.Maps.OwnIn
import Derived.TacticsInMore
set_option linter.unusedVariables false
set_option linter.unusedSimpArgs false
namespace Go.Proofs.YtmbimnphdhmapaaDoor
open Go.RowKit Go.Shelf
attribute [local go_sem] Oper.semAt_some
def valsW (xs : List Sw) : List Value := xs.flatMap fun s => [.int .i64 s.m, .int .i64 s.b]
theorem valsW_len (xs : List Sw) : (valsW xs).length = xs.length * 2 := by
  induction xs with
  | nil => rfl
  | cons s xs ih => unfold valsW at ih ⊢; simp only [List.flatMap_cons, List.length_append, List.length_cons, List.length_nil, ih]; omega
theorem valsW_app (xs ys : List Sw) : valsW xs ++ valsW ys = valsW (xs ++ ys) := by simp [valsW]
theorem valsW_get (xs : List Sw) (j : Nat) (h : j < xs.length) : (valsW xs)[j * 2]? = some (.int .i64 (xs.getD j ⟨0, 0⟩).m) ∧ (valsW xs)[j * 2 + 1]? = some (.int .i64 (xs.getD j ⟨0, 0⟩).b) := by
  induction xs generalizing j with
  | nil => simp at h
  | cons s xs ih =>
    cases j with
    | zero => simp [valsW]
    | succ j =>
      have := ih j (by simpa using h)
      rw [show (j + 1) * 2 = j * 2 + 1 + 1 by omega]
      simpa [valsW] using this
/-- The slice value v is the call's own row of just these stretches, in a block from 'base' on; or nil, and there are none. -/
def OwnW (base : Nat) (w : World) (v : Value) (xs : List Sw) : Prop := w.ownsRow base 39 2 v xs.length (valsW xs)
theorem OwnW.nil (base : Nat) (w : World) : OwnW base w (.slice none 0 0) [] := ⟨by simp [valsW], .inl ⟨rfl, rfl⟩⟩
theorem OwnW.form {base : Nat} {w : World} {v : Value} {xs : List Sw} (h : OwnW base w v xs) : ∃ a c, v = .slice a xs.length c := by
  rcases h.2 with ⟨rfl, e⟩ | ⟨g, cap, cur, rfl, _⟩
  · exact ⟨none, 0, by rw [e]⟩
  · exact ⟨_, cap, rfl⟩
theorem OwnW.row {base : Nat} {w : World} {v : Value} {xs : List Sw} (h : OwnW base w v xs) : ∀ k, v.ownBlock = some k → base ≤ k ∧ ∃ cs, w.heap[k]? = some (.cells cs 39 (0, 0)) := by
  intro k hk
  rcases h.2 with ⟨rfl, e⟩ | ⟨g, cap, cur, rfl, hg, hh, _⟩
  · simp [Value.ownBlock] at hk
  · simp [Value.ownBlock] at hk; subst hk; exact ⟨hg, _, hh⟩
theorem OwnW.kept {base : Nat} {w w' : World} {v : Value} {xs : List Sw} (h : OwnW base w v xs) (hb : ∀ k, base ≤ k → k < w.heap.size → w'.heap[k]? = w.heap[k]?) : OwnW base w' v xs := by
  refine ⟨h.1, ?_⟩
  rcases h.2 with e | ⟨g, cap, cur, rfl, hg, hh, r⟩
  · exact .inl e
  · have hlt : g < w.heap.size := (Array.getElem?_eq_some_iff.1 hh).1
    exact .inr ⟨g, cap, cur, rfl, hg, (hb g hg hlt).trans hh, r⟩
theorem OwnW.below {base B : Nat} {w w' : World} {v : Value} {xs : List Sw} (h : OwnW base w v xs) (hb : Below B w w') (hB : w.heap.size ≤ B) : OwnW base w' v xs := h.kept (fun k _ hk => hb.block k (by omega))
theorem OwnW.base {base B : Nat} {w : World} {v : Value} {xs : List Sw} (h : OwnW base w v xs) (hB : B ≤ base) : OwnW B w v xs := by
  refine ⟨h.1, ?_⟩
  rcases h.2 with e | ⟨g, cap, cur, rfl, hg, r⟩
  · exact .inl e
  · exact .inr ⟨g, cap, cur, rfl, Nat.le_trans hB hg, r⟩
theorem OwnW.cells {base n c : Nat} {a : Option Addr} {w : World} {xs : List Sw} (h : OwnW base w (.slice a n c) xs) : ∀ i, i < xs.length → ∃ g, a = some ⟨g, 0, none⟩ ∧ g < w.heap.size ∧ w.cell? ⟨g, i * 2, none⟩ = some (.int .i64 (xs.getD i ⟨0, 0⟩).m) ∧ w.cell? ⟨g, i * 2 + 1, none⟩ = some (.int .i64 (xs.getD i ⟨0, 0⟩).b) := by
  intro i hi
  rcases h.2 with ⟨e, e2⟩ | ⟨g, cap, cur, e, hg, hb, hn, hm, hs, ht⟩
  · omega
  · cases e
    obtain ⟨e0, e1⟩ := valsW_get xs i hi
    rw [← ht, List.getElem?_take_of_lt (by omega)] at e0 e1
    refine ⟨g, rfl, (Array.getElem?_eq_some_iff.1 hb).1, ?_, ?_⟩
    · simp only [World.cell?, hb]; simpa using e0
    · simp only [World.cell?, hb]; simpa using e1
theorem infoW : (Tryd.prog.info? 39).map (fun i => (i.zero, i.size, i.bytes)) = some (some (.agg #[.int .i64 0, .int .i64 0]), 2, 16) := by kernel_rfl
theorem partsW : ∃ i, Tryd.prog.info? 39 = some i ∧ i.zero = some (.agg #[.int .i64 0, .int .i64 0]) ∧ i.size = 2 ∧ i.bytes = 16 := by
  have h := infoW
  cases hi : Tryd.prog.info? 39 with
  | none => rw [hi] at h; cases h
  | some i => rw [hi] at h; simp at h; exact ⟨i, rfl, h.1, h.2.1, h.2.2⟩
/-- Appending one stretch that lies in a block of its own, in a round. -/
theorem wpListIn_bappW {F : Fence} {n : Nat} {w : World} {ops : Array Oper} {rest : List Oper} {o : Oper} {a : Act} {Q : Exit → Act → World → Prop} (hgd : o.guard = none) (s x : Operand)
    (ho : o.op = .call { callee := .builtin .append, args := #[s, x], argTypes := #[22, 22] })
    (base : Nat) (v : Value) (ys : List Sw) (hs : a.eval s = v) (hown : OwnW base w v ys) (g : Nat) (z : Sw) (hx : a.eval x = .slice (some ⟨g, 0, none⟩) 1 1) (h0 : w.cell? ⟨g, 0, none⟩ = some (.int .i64 z.m)) (h1 : w.cell? ⟨g, 1, none⟩ = some (.int .i64 z.b))
    (hlen : ys.length ≤ 1000000) (hbase : base ≤ w.heap.size)
    (h : ∀ a' c' w', OwnW base w' (.slice a' (ys ++ [z]).length c') (ys ++ [z]) → w.grownBy w' v.ownBlock → wpListIn F n Tryd.prog ops Q rest (a.put o.dst (.slice a' (ys ++ [z]).length c')) w') : wpListIn F n Tryd.prog ops Q (o :: rest) a w := by
  obtain ⟨i, hi, hz, hsz, hby⟩ := partsW
  refine wpListIn_append_own w hgd s x _ ho base 39 i _ 2 16 Tryd.underlying22 hi hz hsz hby rfl (by decide) v ys.length (valsW ys) hs hown ⟨g, 0, none⟩ 1 1 [.int .i64 z.m, .int .i64 z.b] hx rfl ?_ ?_ (by unfold maxLen; omega) (by omega) hbase ?_
  · intro j u hj
    match j, hj with
    | 0, hj => simp at hj; subst hj; simpa [Addr.add] using h0
    | 1, hj => simp at hj; subst hj; simpa [Addr.add] using h1
  · intro u hu
    simp at hu
    rcases hu with rfl | rfl <;> rfl
  · intro v' w' k2 k3 _
    have hO : OwnW base w' v' (ys ++ [z]) := by
      have e := valsW_app ys [z]
      unfold OwnW
      rw [← e, List.length_append]
      exact k2
    obtain ⟨a', c', rfl⟩ := hO.form
    exact h a' c' w' hO k3
theorem OwnW.sws {base n c : Nat} {a : Option Addr} {w : World} {xs : List Sw} (h : OwnW base w (.slice a n c) xs) : SwsAt w.heap.size w a xs.length (fun i => xs.getD i ⟨0, 0⟩) := by
  intro i hi
  obtain ⟨g, e, hg, h0, h1⟩ := h.cells i hi
  exact ⟨g, 0, e, hg, by rw [Nat.zero_add]; exact h0, by rw [Nat.zero_add]; exact h1⟩
end Go.Proofs.YtmbimnphdhmapaaDoor
