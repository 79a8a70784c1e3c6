/- Rows of rules that a call makes. -/
import Derived.Test.YtmbimnphdhmapaaBTab
import Derived.Maps.OwnIn
import Derived.Laws.OwnMore
set_option linter.unusedVariables false
set_option linter.unusedSimpArgs false
namespace Go.Proofs.Ytmbimnphdhmapaa
open Go.RowKit Go.Shelf
def valsR (xs : List Ru) : List Value := xs.flatMap fun r => [.int .i64 r.s, .int .i64 r.k, .int .i64 r.p]
theorem valsR_len (xs : List Ru) : (valsR xs).length = xs.length * 3 := by
  induction xs with
  | nil => rfl
  | cons s xs ih => unfold valsR at ih ⊢; simp only [List.flatMap_cons, List.length_append, List.length_cons, List.length_nil, ih]; omega
theorem valsR_app (xs ys : List Ru) : valsR xs ++ valsR ys = valsR (xs ++ ys) := by simp [valsR]
theorem valsR_one {xs : List Ru} : ∀ u ∈ valsR xs, u.oneCell' = true := by
  intro u hu
  simp only [valsR, List.mem_flatMap] at hu
  obtain ⟨r, _, hr⟩ := hu
  simp at hr
  rcases hr with rfl | rfl | rfl <;> rfl
theorem valsR_get (xs : List Ru) (j : Nat) (h : j < xs.length) : (valsR xs)[j * 3]? = some (.int .i64 (xs.getD j ⟨0, 0, 0⟩).s) ∧ (valsR xs)[j * 3 + 1]? = some (.int .i64 (xs.getD j ⟨0, 0, 0⟩).k) ∧ (valsR xs)[j * 3 + 2]? = some (.int .i64 (xs.getD j ⟨0, 0, 0⟩).p) := by
  induction xs generalizing j with
  | nil => simp at h
  | cons s xs ih =>
    cases j with
    | zero => simp [valsR]
    | succ j =>
      have := ih j (by simpa using h)
      rw [show (j + 1) * 3 = j * 3 + 1 + 1 + 1 by omega]
      simpa [valsR] using this
/-- The cells of a row of rules that lies from ⟨b, o⟩ on. -/
theorem valsR_cells {w : World} {b o n : Nat} {R : Nat → Ru} (h : ∀ i, i < n → w.cell? ⟨b, o + i * 3, none⟩ = some (.int .i64 (R i).s) ∧ w.cell? ⟨b, o + i * 3 + 1, none⟩ = some (.int .i64 (R i).k) ∧ w.cell? ⟨b, o + i * 3 + 2, none⟩ = some (.int .i64 (R i).p)) :
    ∀ j u, (valsR ((List.range n).map R))[j]? = some u → w.cell? ((⟨b, o, none⟩ : Addr).add j) = some u := by
  intro j u hj
  have hl : j < n * 3 := by
    have := (List.getElem?_eq_some_iff.1 hj).1
    rw [valsR_len] at this
    simpa using this
  obtain ⟨i, r, hr, rfl⟩ : ∃ i r, r < 3 ∧ j = i * 3 + r := ⟨j / 3, j % 3, by omega, by omega⟩
  have hi : i < n := by omega
  obtain ⟨e0, e1, e2⟩ := valsR_get ((List.range n).map R) i (by simpa using hi)
  have hg : ((List.range n).map R).getD i ⟨0, 0, 0⟩ = R i := by simp [List.getD, hi]
  rw [hg] at e0 e1 e2
  obtain ⟨c0, c1, c2⟩ := h i hi
  rcases (by omega : r = 0 ∨ r = 1 ∨ r = 2) with rfl | rfl | rfl
  · rw [Nat.add_zero, e0] at hj; cases hj; rw [Nat.add_zero, Addr.add_mid]; exact c0
  · rw [e1] at hj; cases hj; rw [Addr.add_mid, ← Nat.add_assoc]; exact c1
  · rw [e2] at hj; cases hj; rw [Addr.add_mid, ← Nat.add_assoc]; exact c2
/-- The slice value v is the call's own row of just these rules, in a block from 'base' on; or nil, and there are none. -/
def OwnR (base : Nat) (w : World) (v : Value) (xs : List Ru) : Prop := w.ownsRow base 48 3 v xs.length (valsR xs)
theorem OwnR.nil (base : Nat) (w : World) : OwnR base w (.slice none 0 0) [] := ⟨by simp [valsR], .inl ⟨rfl, rfl⟩⟩
theorem OwnR.form {base : Nat} {w : World} {v : Value} {xs : List Ru} (h : OwnR base w v xs) : ∃ a c, v = .slice a xs.length c := by
  rcases h.2 with ⟨rfl, e⟩ | ⟨g, cap, cur, rfl, _⟩
  · exact ⟨none, 0, by rw [e]⟩
  · exact ⟨_, cap, rfl⟩
theorem OwnR.row {base : Nat} {w : World} {v : Value} {xs : List Ru} (h : OwnR base w v xs) : ∀ k, v.ownBlock = some k → base ≤ k ∧ k < w.heap.size := by
  intro k hk
  rcases h.2 with ⟨rfl, e⟩ | ⟨g, cap, cur, rfl, hg, hh, _⟩
  · simp [Value.ownBlock] at hk
  · simp [Value.ownBlock] at hk; subst hk; exact ⟨hg, (Array.getElem?_eq_some_iff.1 hh).1⟩
theorem OwnR.kept {base : Nat} {w w' : World} {v : Value} {xs : List Ru} (h : OwnR base w v xs) (hb : ∀ k, v.ownBlock = some k → w'.heap[k]? = w.heap[k]?) : OwnR base w' v xs := by
  refine ⟨h.1, ?_⟩
  rcases h.2 with e | ⟨g, cap, cur, rfl, hg, hh, r⟩
  · exact .inl e
  · exact .inr ⟨g, cap, cur, rfl, hg, (hb g rfl).trans hh, r⟩
theorem OwnR.rus {base n c : Nat} {a : Option Addr} {w : World} {xs : List Ru} (h : OwnR base w (.slice a n c) xs) : RusAt w.heap.size w a xs.length (fun i => xs.getD i ⟨0, 0, 0⟩) := by
  intro i hi
  rcases h.2 with ⟨e, e2⟩ | ⟨g, cap, cur, e, hg, hb, hn, hm, hs, ht⟩
  · omega
  · cases e
    obtain ⟨e0, e1, e2⟩ := valsR_get xs i hi
    rw [← ht, List.getElem?_take_of_lt (by omega)] at e0 e1 e2
    refine ⟨g, 0, rfl, (Array.getElem?_eq_some_iff.1 hb).1, ?_, ?_, ?_⟩
    · simp only [World.cell?, hb, Nat.zero_add]; simpa using e0
    · simp only [World.cell?, hb, Nat.zero_add]; simpa using e1
    · simp only [World.cell?, hb, Nat.zero_add]; simpa using e2
theorem infoOwnR : (Try.prog.info? 48).map (fun i => (i.zero, i.size, i.bytes)) = some (some (.agg #[.int .i64 0, .int .i64 0, .int .i64 0]), 3, 24) := by kernel_rfl
theorem partsOwnR : ∃ i, Try.prog.info? 48 = some i ∧ i.zero = some (.agg #[.int .i64 0, .int .i64 0, .int .i64 0]) ∧ i.size = 3 ∧ i.bytes = 24 := by
  have h := infoOwnR
  cases hi : Try.prog.info? 48 with
  | none => rw [hi] at h; cases h
  | some i => rw [hi] at h; simp at h; exact ⟨i, rfl, h.1, h.2.1, h.2.2⟩
/-- Appending rules that lie somewhere, in a region that draws its order. -/
theorem wpR_OwnR {w : World} {o : Oper} {a : Act} {K : Act → World → Prop} {Q : Exit → Act → World → Prop} (hgd : o.guard = none) (s x : Operand)
    (ho : o.op = .call { callee := .builtin .append, args := #[s, x], argTypes := #[39, 39] })
    (base : Nat) (v : Value) (ls : List Ru) (hs : a.eval s = v) (hown : OwnR base w v ls) (ad : Addr) (m c : Nat) (zs : List Ru) (hx : a.eval x = .slice (some ad) m c) (hm : zs.length = m) (hz : ∀ j u, (valsR zs)[j]? = some u → w.cell? (ad.add j) = some u)
    (hlen : ls.length + m ≤ 1000000) (hbase : base ≤ w.heap.size)
    (h : ∀ a' c' w', OwnR base w' (.slice a' (ls ++ zs).length c') (ls ++ zs) → w.grownBy w' v.ownBlock → K (a.put o.dst (.slice a' (ls ++ zs).length c')) w') :
    o.wp Try.prog a w K Q := by
  obtain ⟨i, hi, hzz, hsz, hby⟩ := partsOwnR
  obtain ⟨v', w', hr, h2, h3, h4, h5⟩ := run_append_own_at (P := Try.prog) w base _ o.type 48 i _ 3 24 Try.underlying39 hi hzz hsz hby rfl (by decide) v ls.length (valsR ls) hown ad m c (valsR zs) (by rw [valsR_len, hm]) hz valsR_one (by unfold maxLen; omega) (by omega) hbase
  have hO : OwnR base w' v' (ls ++ zs) := by
    have e := valsR_app ls zs
    unfold OwnR
    rw [← e, List.length_append, hm]
    exact h2
  obtain ⟨a', c', rfl⟩ := hO.form
  have hk := h a' c' w' hO h3
  unfold Oper.wp
  simp [execOp, ho, resolve, invoke, builtin, hs, hx, hr, Result.andThen, Oper.upon]
  simpa using hk
/-- The slice value v is the call's own row of just these rules, in a block from 'base' on; or nil, and there are none. -/
def OwnU (base : Nat) (w : World) (v : Value) (xs : List Ru) : Prop := w.ownsRow base 47 3 v xs.length (valsR xs)
theorem OwnU.nil (base : Nat) (w : World) : OwnU base w (.slice none 0 0) [] := ⟨by simp [valsR], .inl ⟨rfl, rfl⟩⟩
theorem OwnU.form {base : Nat} {w : World} {v : Value} {xs : List Ru} (h : OwnU base w v xs) : ∃ a c, v = .slice a xs.length c := by
  rcases h.2 with ⟨rfl, e⟩ | ⟨g, cap, cur, rfl, _⟩
  · exact ⟨none, 0, by rw [e]⟩
  · exact ⟨_, cap, rfl⟩
theorem OwnU.row {base : Nat} {w : World} {v : Value} {xs : List Ru} (h : OwnU base w v xs) : ∀ k, v.ownBlock = some k → base ≤ k ∧ k < w.heap.size := by
  intro k hk
  rcases h.2 with ⟨rfl, e⟩ | ⟨g, cap, cur, rfl, hg, hh, _⟩
  · simp [Value.ownBlock] at hk
  · simp [Value.ownBlock] at hk; subst hk; exact ⟨hg, (Array.getElem?_eq_some_iff.1 hh).1⟩
theorem OwnU.kept {base : Nat} {w w' : World} {v : Value} {xs : List Ru} (h : OwnU base w v xs) (hb : ∀ k, v.ownBlock = some k → w'.heap[k]? = w.heap[k]?) : OwnU base w' v xs := by
  refine ⟨h.1, ?_⟩
  rcases h.2 with e | ⟨g, cap, cur, rfl, hg, hh, r⟩
  · exact .inl e
  · exact .inr ⟨g, cap, cur, rfl, hg, (hb g rfl).trans hh, r⟩
theorem OwnU.rus {base n c : Nat} {a : Option Addr} {w : World} {xs : List Ru} (h : OwnU base w (.slice a n c) xs) : RusAt w.heap.size w a xs.length (fun i => xs.getD i ⟨0, 0, 0⟩) := by
  intro i hi
  rcases h.2 with ⟨e, e2⟩ | ⟨g, cap, cur, e, hg, hb, hn, hm, hs, ht⟩
  · omega
  · cases e
    obtain ⟨e0, e1, e2⟩ := valsR_get xs i hi
    rw [← ht, List.getElem?_take_of_lt (by omega)] at e0 e1 e2
    refine ⟨g, 0, rfl, (Array.getElem?_eq_some_iff.1 hb).1, ?_, ?_, ?_⟩
    · simp only [World.cell?, hb, Nat.zero_add]; simpa using e0
    · simp only [World.cell?, hb, Nat.zero_add]; simpa using e1
    · simp only [World.cell?, hb, Nat.zero_add]; simpa using e2
theorem infoOwnU : (Try.prog.info? 47).map (fun i => (i.zero, i.size, i.bytes)) = some (some (.agg #[.int .i64 0, .int .i64 0, .int .i64 0]), 3, 24) := by kernel_rfl
theorem partsOwnU : ∃ i, Try.prog.info? 47 = some i ∧ i.zero = some (.agg #[.int .i64 0, .int .i64 0, .int .i64 0]) ∧ i.size = 3 ∧ i.bytes = 24 := by
  have h := infoOwnU
  cases hi : Try.prog.info? 47 with
  | none => rw [hi] at h; cases h
  | some i => rw [hi] at h; simp at h; exact ⟨i, rfl, h.1, h.2.1, h.2.2⟩
/-- Appending rules that lie somewhere, in a region that draws its order. -/
theorem wpR_OwnU {w : World} {o : Oper} {a : Act} {K : Act → World → Prop} {Q : Exit → Act → World → Prop} (hgd : o.guard = none) (s x : Operand)
    (ho : o.op = .call { callee := .builtin .append, args := #[s, x], argTypes := #[43, 43] })
    (base : Nat) (v : Value) (ls : List Ru) (hs : a.eval s = v) (hown : OwnU base w v ls) (ad : Addr) (m c : Nat) (zs : List Ru) (hx : a.eval x = .slice (some ad) m c) (hm : zs.length = m) (hz : ∀ j u, (valsR zs)[j]? = some u → w.cell? (ad.add j) = some u)
    (hlen : ls.length + m ≤ 1000000) (hbase : base ≤ w.heap.size)
    (h : ∀ a' c' w', OwnU base w' (.slice a' (ls ++ zs).length c') (ls ++ zs) → w.grownBy w' v.ownBlock → K (a.put o.dst (.slice a' (ls ++ zs).length c')) w') :
    o.wp Try.prog a w K Q := by
  obtain ⟨i, hi, hzz, hsz, hby⟩ := partsOwnU
  obtain ⟨v', w', hr, h2, h3, h4, h5⟩ := run_append_own_at (P := Try.prog) w base _ o.type 47 i _ 3 24 Try.underlying43 hi hzz hsz hby rfl (by decide) v ls.length (valsR ls) hown ad m c (valsR zs) (by rw [valsR_len, hm]) hz valsR_one (by unfold maxLen; omega) (by omega) hbase
  have hO : OwnU base w' v' (ls ++ zs) := by
    have e := valsR_app ls zs
    unfold OwnU
    rw [← e, List.length_append, hm]
    exact h2
  obtain ⟨a', c', rfl⟩ := hO.form
  have hk := h a' c' w' hO h3
  unfold Oper.wp
  simp [execOp, ho, resolve, invoke, builtin, hs, hx, hr, Result.andThen, Oper.upon]
  simpa using hk
/-- Appending one rule that lies in a block of its own, in a region that draws its order. -/
theorem wpR_OwnUN {w : World} {o : Oper} {a : Act} {K : Act → World → Prop} {Q : Exit → Act → World → Prop} (hgd : o.guard = none) (s x : Operand)
    (ho : o.op = .call { callee := .builtin .append, args := #[s, x], argTypes := #[43, 43] })
    (base : Nat) (v : Value) (ls : List Ru) (hs : a.eval s = v) (hown : OwnU base w v ls) (g : Nat) (z : Ru) (hx : a.eval x = .slice (some ⟨g, 0, none⟩) 1 1) (h0 : w.cell? ⟨g, 0, none⟩ = some (.int .i64 z.s)) (h1 : w.cell? ⟨g, 1, none⟩ = some (.int .i64 z.k)) (h2 : w.cell? ⟨g, 2, none⟩ = some (.int .i64 z.p))
    (N : Nat) (hN : ls.length + 1 = N) (hlen : ls.length + 1 ≤ 1000000) (hbase : base ≤ w.heap.size)
    (h : ∀ a' c' w', OwnU base w' (.slice a' N c') (ls ++ [z]) → w.grownBy w' v.ownBlock → K (a.put o.dst (.slice a' N c')) w') :
    o.wp Try.prog a w K Q := by
  refine wpR_OwnU hgd s x ho base v ls hs hown ⟨g, 0, none⟩ 1 1 [z] hx rfl (fun j u hj => ?_) hlen hbase ?_
  · match j, hj with
    | 0, hj => simp [valsR] at hj; subst hj; simpa [Addr.add] using h0
    | 1, hj => simp [valsR] at hj; subst hj; simpa [Addr.add] using h1
    | 2, hj => simp [valsR] at hj; subst hj; simpa [Addr.add] using h2
    | j + 3, hj => simp [valsR] at hj
  · rw [show (ls ++ [z]).length = N by simp [hN]]
    exact h
end Go.Proofs.Ytmbimnphdhmapaa
