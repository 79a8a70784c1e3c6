/- Lists of bytes that lie in a row of slices. -/
import Derived.Test.YtpcbolmidnoaiaaFOps
set_option linter.unusedVariables false
set_option linter.unusedSimpArgs false
namespace Go.Proofs.Ytpcbolmidnoaiaa
open Go.RowKit Go.Shelf
/-- The lists lie from a on, and their bytes too, in blocks below B. -/
def BssAt (B : Nat) (W : World) (a : Option Addr) (ls : List (List Int)) : Prop :=
  ∀ i L, ls[i]? = some L → ∃ b o a' c', a = some ⟨b, o, none⟩ ∧ b < B ∧ W.cell? ⟨b, o + i, none⟩ = some (.slice a' L.length c') ∧ L.length ≤ c' ∧ Bys8 B W (.slice a' L.length c') L
theorem BssAt.next {B n : Nat} {W X : World} {a : Option Addr} {l : List (List Int)} (h : BssAt B W a l) (hB : Below n W X) (hn : B ≤ n) : BssAt B X a l := by
  intro i v hi
  obtain ⟨b, o, a', c', e, hb, h0, h1, h2⟩ := h i v hi
  exact ⟨b, o, a', c', e, hb, (hB.cell (p := ⟨b, o + i, none⟩) (by show b < n; omega)).trans h0, h1, h2.below (hB.mono hn)⟩
theorem BssAt.mono {B B' : Nat} {W : World} {a : Option Addr} {l : List (List Int)} (h : BssAt B W a l) (hB : B ≤ B') : BssAt B' W a l := fun i v hi => by
  obtain ⟨b, o, a', c', e, hb, h0, h1, h2⟩ := h i v hi; exact ⟨b, o, a', c', e, by omega, h0, h1, h2.mono hB⟩
theorem BssAt.nil {B : Nat} {W : World} {a : Option Addr} : BssAt B W a [] := fun i v hi => by simp at hi
theorem BssAt.grow {W X : World} {a : Option Addr} {l : List (List Int)} (h : BssAt W.heap.size W a l) (hB : Below W.heap.size W X) : BssAt X.heap.size X a l := (h.next hB (Nat.le_refl _)).mono hB.size
theorem BssAt.from {n : Nat} {w W : World} {a : Option Addr} {l : List (List Int)} (h : BssAt n w a l) (hB : Below n w W) (hn : n ≤ w.heap.size) : BssAt W.heap.size W a l := (h.next hB (Nat.le_refl _)).mono (Nat.le_trans hn hB.size)
theorem BssAt.take {B : Nat} {W : World} {a : Option Addr} {l : List (List Int)} (h : BssAt B W a l) (k : Nat) : BssAt B W a (l.take k) := fun i v hi => h i v (by
  rw [List.getElem?_take] at hi
  split at hi
  · exact hi
  · cases hi)
theorem BssAt.byt {B : Nat} {W : World} {a : Option Addr} {l : List (List Int)} (h : BssAt B W a l) : ∀ L ∈ l, Byt L := fun L hL => by
  obtain ⟨i, hi, rfl⟩ := List.getElem_of_mem hL
  obtain ⟨b, o, a', c', _, _, _, _, h2⟩ := h i _ (List.getElem?_eq_getElem hi)
  exact h2.1
/-- One of them, as a row of its own. -/
theorem BssAt.one {B : Nat} {W : World} {b o : Nat} {l : List (List Int)} (h : BssAt B W (some ⟨b, o, none⟩) l) (i : Nat) (hi : i < l.length) : BssAt B W (some ⟨b, o + i, none⟩) [l.getD i []] := by
  intro j v hj
  cases j with
  | succ j => simp at hj
  | zero =>
    obtain rfl : l.getD i [] = v := by simpa using hj
    rw [show l.getD i [] = l[i] by simp [List.getD, hi]]
    obtain ⟨b', o', a', c', e, hb, h0, h1, h2⟩ := h i _ (List.getElem?_eq_getElem hi)
    cases e
    exact ⟨b, o + i, a', c', rfl, hb, h0, h1, h2⟩
theorem BssAt.at {B : Nat} {W : World} {a : Option Addr} {l : List (List Int)} (h : BssAt B W a l) (i : Nat) (hi : i < l.length) :
    ∃ b o a' c', a = some ⟨b, o, none⟩ ∧ b < B ∧ W.cell? ⟨b, o + i, none⟩ = some (.slice a' (l.getD i []).length c') ∧ (l.getD i []).length ≤ c' ∧ Bys8 B W (.slice a' (l.getD i []).length c') (l.getD i []) := by
  rw [show l.getD i [] = l[i] by simp [List.getD, hi]]
  exact h i _ (List.getElem?_eq_getElem hi)
theorem size_take_le : ∀ (l : List (List Int)) (k : Nat), sizeN (l.take k) ≤ sizeN l
  | [], k => by simp
  | L :: l, 0 => by simp [sizeN]
  | L :: l, k + 1 => by
    rw [List.take_succ_cons, sizeN_cons, sizeN_cons]
    have := size_take_le l k
    omega
theorem frames_snoc (l : List (List Int)) (k : Nat) (hk : k < l.length) : ((l.take (k + 1)).map frameL).flatten = ((l.take k).map frameL).flatten ++ frameL (l.getD k []) := by
  rw [List.take_succ_eq_append_getElem hk, List.map_append, List.flatten_append, show l.getD k [] = l[k] by simp [List.getD, hk]]
  simp only [List.map_cons, List.map_nil, List.flatten_cons, List.flatten_nil, List.append_nil]
end Go.Proofs.Ytpcbolmidnoaiaa
