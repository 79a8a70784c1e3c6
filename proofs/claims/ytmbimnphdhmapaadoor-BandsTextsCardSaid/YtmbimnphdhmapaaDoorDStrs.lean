/- Rows of strings that a call makes. -/
import Derived.Test.YtmbimnphdhmapaaDoorDIter
import Derived.Maps.OwnIn
import Derived.Laws.OwnMore
set_option linter.unusedVariables false
set_option linter.unusedSimpArgs false
namespace Go.Proofs.YtmbimnphdhmapaaDoor
open Go.RowKit Go.Shelf
def valsL (xs : List (List UInt8)) : List Value := xs.map strL
theorem valsL_one {xs : List (List UInt8)} : ∀ u ∈ valsL xs, u.oneCell' = true := by
  intro u hu
  obtain ⟨r, _, rfl⟩ := List.mem_map.1 hu
  rfl
/-- The slice value v is the call's own row of just these strings, in a block from 'base' on; or nil, and there are none. -/
def OwnL (base : Nat) (w : World) (v : Value) (xs : List (List UInt8)) : Prop := w.ownsRow base 9 1 v xs.length (valsL xs)
theorem OwnL.nil (base : Nat) (w : World) : OwnL base w (.slice none 0 0) [] := ⟨by simp [valsL], .inl ⟨rfl, rfl⟩⟩
theorem OwnL.form {base : Nat} {w : World} {v : Value} {xs : List (List UInt8)} (h : OwnL base w v xs) : ∃ a c, v = .slice a xs.length c := by
  rcases h.2 with ⟨rfl, e⟩ | ⟨g, cap, cur, rfl, _⟩
  · exact ⟨none, 0, by rw [e]⟩
  · exact ⟨_, cap, rfl⟩
theorem OwnL.row {base : Nat} {w : World} {v : Value} {xs : List (List UInt8)} (h : OwnL base w v xs) : ∀ k, v.ownBlock = some k → base ≤ k ∧ k < w.heap.size := by
  intro k hk
  rcases h.2 with ⟨rfl, e⟩ | ⟨g, cap, cur, rfl, hg, hh, _⟩
  · simp [Value.ownBlock] at hk
  · simp [Value.ownBlock] at hk; subst hk; exact ⟨hg, (Array.getElem?_eq_some_iff.1 hh).1⟩
theorem OwnL.kept {base : Nat} {w w' : World} {v : Value} {xs : List (List UInt8)} (h : OwnL base w v xs) (hb : ∀ k, base ≤ k → k < w.heap.size → w'.heap[k]? = w.heap[k]?) : OwnL base w' v xs := by
  refine ⟨h.1, ?_⟩
  rcases h.2 with e | ⟨g, cap, cur, rfl, hg, hh, r⟩
  · exact .inl e
  · have hlt : g < w.heap.size := (Array.getElem?_eq_some_iff.1 hh).1
    exact .inr ⟨g, cap, cur, rfl, hg, (hb g hg hlt).trans hh, r⟩
theorem OwnL.below {base B : Nat} {w w' : World} {v : Value} {xs : List (List UInt8)} (h : OwnL base w v xs) (hb : Below B w w') (hB : w.heap.size ≤ B) : OwnL base w' v xs := h.kept (fun k _ hk => hb.block k (by omega))
/-- A row that holds something: where it lies, and its cells. -/
theorem OwnL.cells {base n c : Nat} {a : Option Addr} {w : World} {xs : List (List UInt8)} (h : OwnL base w (.slice a n c) xs) (hne : 0 < xs.length) : ∃ g, a = some ⟨g, 0, none⟩ ∧ g < w.heap.size ∧ xs.length ≤ c ∧ ∀ (j : Nat) x, xs[j]? = some x → w.cell? ⟨g, 0 + j, none⟩ = some (strL x) := by
  rcases h.2 with ⟨e, e2⟩ | ⟨g, cap, cur, e, hg, hb, hn, hm, hs, ht⟩
  · omega
  · cases e
    refine ⟨g, rfl, (Array.getElem?_eq_some_iff.1 hb).1, hn, fun j x hx => ?_⟩
    have hj : j < xs.length := (List.getElem?_eq_some_iff.1 hx).1
    have e0 : (valsL xs)[j]? = some (strL x) := by simp [valsL, hx]
    rw [← ht, List.getElem?_take_of_lt (by omega)] at e0
    simp only [World.cell?, hb, Nat.zero_add]
    simpa using e0
theorem infoL : (Tryd.prog.info? 9).map (fun i => (i.zero, i.size, i.bytes)) = some (some (.string ⟨#[]⟩), 1, 16) := by kernel_rfl
theorem partsL : ∃ i, Tryd.prog.info? 9 = some i ∧ i.zero = some (.string ⟨#[]⟩) ∧ i.size = 1 ∧ i.bytes = 16 := by
  have h := infoL
  cases hi : Tryd.prog.info? 9 with
  | none => rw [hi] at h; cases h
  | some i => rw [hi] at h; simp at h; exact ⟨i, rfl, h.1, h.2.1, h.2.2⟩
/-- Appending one string that lies in a block of its own, in a region that draws its order. -/
theorem wpR_OwnL {w : World} {o : Oper} {a : Act} {K : Act → World → Prop} {Q : Exit → Act → World → Prop} (hgd : o.guard = none) (s x : Operand)
    (ho : o.op = .call { callee := .builtin .append, args := #[s, x], argTypes := #[37, 37] })
    (base : Nat) (v : Value) (ls : List (List UInt8)) (hs : a.eval s = v) (hown : OwnL base w v ls) (g : Nat) (z : List UInt8) (hx : a.eval x = .slice (some ⟨g, 0, none⟩) 1 1) (h0 : w.cell? ⟨g, 0, none⟩ = some (strL z))
    (N : Nat) (hN : ls.length + 1 = N) (hlen : ls.length + 1 ≤ 1000000) (hbase : base ≤ w.heap.size)
    (h : ∀ a' c' w', OwnL base w' (.slice a' N c') (ls ++ [z]) → w.grownBy w' v.ownBlock → K (a.put o.dst (.slice a' N c')) w') :
    o.wp Tryd.prog a w K Q := by
  obtain ⟨i, hi, hzz, hsz, hby⟩ := partsL
  obtain ⟨v', w', hr, h2, h3, h4, h5⟩ := run_append_own_at (P := Tryd.prog) w base _ o.type 9 i _ 1 16 Tryd.underlying37 hi hzz hsz hby rfl (by decide) v ls.length (valsL ls) hown ⟨g, 0, none⟩ 1 1 (valsL [z]) (by simp [valsL]) (fun j u hj => by
    match j, hj with
    | 0, hj => simp [valsL] at hj; subst hj; simpa [Addr.add] using h0
    | j + 1, hj => simp [valsL] at hj) valsL_one (by unfold maxLen; omega) (by omega) hbase
  have hO : OwnL base w' v' (ls ++ [z]) := by
    have e : valsL ls ++ valsL [z] = valsL (ls ++ [z]) := by simp [valsL]
    unfold OwnL
    rw [← e, List.length_append]
    exact h2
  obtain ⟨a', c', rfl⟩ := hO.form
  have hl : (ls ++ [z]).length = N := by simp [hN]
  rw [hl] at hO hr
  have hk := h a' c' w' hO h3
  unfold Oper.wp
  simp [execOp, ho, resolve, invoke, builtin, hs, hx, hr, Result.andThen, Oper.upon]
  simpa using hk
end Go.Proofs.YtmbimnphdhmapaaDoor
