/- What the iterator gives, as a list; Why. -/
import Derived.Test.YtpcbolmidnoaiaaFIter
import Derived.Test.YtpcbolmidnoaiaaFSls
import Derived.Test.YtpcbolmidnoaiaaCScope
set_option linter.unusedVariables false
set_option linter.unusedSimpArgs false
namespace Go.Proofs.Ytpcbolmidnoaiaa
open Go.RowKit Go.Shelf
attribute [local go_sem] Oper.semAt_some
def lastWhy (l : List It) : Nat := (l.getLast?.map It.why).getD 0
theorem lastWhy_snoc (l : List It) (x : It) : lastWhy (l ++ [x]) = x.why := by simp [lastWhy]
/-- Why there is a tail; 0: there is none. -/
def tailWhy (rest : List Int) : Nat := if rest = [] then 0 else whyOf rest
theorem lastWhy_items (b : Nat) : ∀ (ls : List (List Int)) (off : Nat) (rest : List Int), lastWhy (itemsOf b off ls rest) = tailWhy rest
  | [], off, rest => by
    unfold itemsOf tailWhy
    split
    · rfl
    · simp [lastWhy]
  | L :: ls, off, rest => by
    have ih := lastWhy_items b ls (off + (6 + L.length)) rest
    unfold itemsOf
    cases h : itemsOf b (off + (6 + L.length)) ls rest with
    | nil => rw [h] at ih; rw [← ih]; simp [lastWhy]
    | cons y ys => rw [h] at ih; rw [← ih]; simp [lastWhy]
theorem items_done (b : Nat) : ∀ (ls : List (List Int)) (off : Nat) (rest : List Int), (rest = [] ∨ whyOf rest ≠ 0) → (∀ x ∈ itemsOf b off ls rest, x.why = 0) → rest = [] ∧ (itemsOf b off ls rest).map It.L = ls
  | [], off, rest, h, h2 => by
    unfold itemsOf at h2 ⊢
    by_cases e : rest = []
    · simp [e]
    · rw [if_neg e] at h2
      rcases h with h | h
      · exact absurd h e
      · exact absurd (h2 _ List.mem_cons_self) h
  | L :: ls, off, rest, h, h2 => by
    unfold itemsOf at h2 ⊢
    obtain ⟨e1, e2⟩ := items_done b ls (off + (6 + L.length)) rest h (fun x hx => h2 x (List.mem_cons_of_mem _ hx))
    exact ⟨e1, by rw [List.map_cons, e2]⟩
theorem items_stop (b : Nat) : ∀ (ls : List (List Int)) (off : Nat) (rest : List Int) (q : List It) (x : It), q ++ [x] <+: itemsOf b off ls rest → x.why ≠ 0 → rest ≠ [] ∧ q.map It.L = ls
  | [], off, rest, q, x, h, hx => by
    unfold itemsOf at h
    by_cases e : rest = []
    · rw [if_pos e] at h
      have := h.length_le
      simp at this
    · rw [if_neg e] at h
      have := h.length_le
      have hq : q = [] := by
        cases q with
        | nil => rfl
        | cons y ys => simp at this
      exact ⟨e, by rw [hq]; rfl⟩
  | L :: ls, off, rest, q, x, h, hx => by
    unfold itemsOf at h
    cases q with
    | nil =>
      have := (List.cons_prefix_cons.1 h).1
      rw [this] at hx
      exact absurd rfl hx
    | cons y ys =>
      obtain ⟨e1, e2⟩ := List.cons_prefix_cons.1 h
      obtain ⟨h1, h2⟩ := items_stop b ls _ rest ys x e2 hx
      exact ⟨h1, by rw [List.map_cons, h2, e1]⟩
/-- What is given lies in the bytes. -/
theorem items_bys {B : Nat} {W : World} (b : Nat) : ∀ (ls : List (List Int)) (off : Nat) (rest : List Int) (xs : List Int) (c : Nat), Scans xs ls rest → Bys8 B W (.slice (some ⟨b, off, none⟩) xs.length c) xs → ∀ x ∈ itemsOf b off ls rest, x.why = 0 → (∃ a, x.v = .slice a x.L.length x.L.length) ∧ Bys8 B W x.v x.L ∧ RecL x.L
  | [], off, rest, xs, c, h, hx, x, hm, hw => by
    unfold itemsOf at hm
    by_cases e : rest = []
    · rw [if_pos e] at hm; cases hm
    · rw [if_neg e] at hm
      obtain rfl := List.mem_singleton.1 hm
      rcases h.tail with k | k
      · exact absurd k e
      · exact absurd hw k
  | L :: ls, off, rest, xs, c, h, hx, x, hm, hw => by
    obtain ⟨h1, h2, h3, h4, h5⟩ := scans_tail h
    unfold itemsOf at hm
    rcases List.mem_cons.1 hm with rfl | hm
    · refine ⟨⟨_, rfl⟩, ?_, h3⟩
      have := rec_bys hx h1 (recOf xs).length
      rw [h2] at this
      exact this
    · by_cases hlt : 6 + L.length < xs.length
      · have hd := hx.drop (6 + L.length) hlt (c - (6 + L.length))
        refine items_bys b ls (off + (6 + L.length)) rest _ (c - (6 + L.length)) h4 ?_ x hm hw
        rw [List.length_drop]
        exact hd
      · rw [List.drop_of_length_le (by omega)] at h4
        obtain ⟨rfl, rfl⟩ := scans_nil h4
        simp [itemsOf] at hm
theorem boxv_of {w : World} {a : Option Addr} {n c : Nat} {xs : List Int} (h : Bys8 w.heap.size w (.slice a n c) xs) (hc : n ≤ c) : ∃ b off, (b < w.heap.size ∨ b = w.heap.size + 3 ∧ xs = []) ∧ BoxV b off (.slice a n c) xs ∧ (xs ≠ [] → a = some ⟨b, off, none⟩ ∧ n = xs.length) := by
  rcases h.2 with ⟨e, a', c', e2⟩ | ⟨b, off, c', e, hb, _⟩
  · cases e2
    exact ⟨w.heap.size + 3, 0, .inr ⟨rfl, e⟩, .inl ⟨e, _, _, rfl⟩, fun q => absurd e q⟩
  · cases e
    refine ⟨b, off, .inl hb, ?_, fun _ => ⟨rfl, rfl⟩⟩
    by_cases e : xs = []
    · exact .inl ⟨e, _, _, by rw [e]; rfl⟩
    · exact .inr ⟨e, c, rfl, hc⟩
theorem at_steady (G : Nat → Prop) {T : TypeId} {b : Nat} {cs : Array Value} (h : ¬ G b) : SteadyG G (fun W => W.heap[b]? = some (.cells cs T (0, 0))) := steadyG_block G b _ h
end Go.Proofs.Ytpcbolmidnoaiaa
