/- The feasts of a year: sorted, each once; a row behind the sort. -/
import Derived.Sort.OwnSortedInts
import Derived.Lib.SlicesCompact
import Derived.Test.YtgedcfgmfhlkdaaDoorHShelf
import Derived.Test.YtgedcfgmfhlkdaaDoorHMath
import Derived.Test.YtgedcfgmfhlkdaaDoorSN
set_option linter.unusedVariables false
set_option linter.unusedSimpArgs false
namespace Go.Proofs.YtgedcfgmfhlkdaaDoor
open Go.RowKit Go.Shelf
theorem compact_le (zs : List Int) : (Lib.compact zs).length ≤ zs.length := by
  unfold Lib.compact Lib.compactUpTo
  rw [List.length_map]
  exact Nat.le_trans (List.length_filter_le _ _) (by simp)
theorem get_bang {l : List Int} {j : Nat} (h : j < l.length) : l.toArray[j]! = l.getD j 0 := by
  simp [List.getD, h]
theorem up_mem (d : Array Int) (m : Nat) (x : Int) : x ∈ Lib.compactUpTo d m → ∃ j, j < m ∧ x = d[j]! := by
  intro h
  unfold Lib.compactUpTo at h
  simp only [List.mem_map, List.mem_filter, List.mem_range] at h
  obtain ⟨j, ⟨hj, _⟩, rfl⟩ := h
  exact ⟨j, hj, rfl⟩
theorem up_asc (d : Array Int) (hs : ∀ j, j + 1 < d.size → d[j]! ≤ d[j + 1]!) (m : Nat) (hm : m ≤ d.size) :
    (∀ j, j < m → d[j]! ∈ Lib.compactUpTo d m) ∧ (Lib.compactUpTo d m).Pairwise (· < ·) ∧ (∀ k, m = k + 1 → ∀ x ∈ Lib.compactUpTo d m, x ≤ d[k]!) := by
  induction m with
  | zero => exact ⟨by intro j hj; omega, by simp [Lib.compactUpTo], by intro k hk; omega⟩
  | succ m ih =>
    obtain ⟨h1, h2, h3⟩ := ih (by omega)
    rw [Lib.compactUpTo_succ]
    have hle : ∀ x ∈ Lib.compactUpTo d m, x ≤ d[m]! := by
      intro x hx
      cases m with
      | zero => simp [Lib.compactUpTo] at hx
      | succ k => exact Int.le_trans (h3 k rfl x hx) (hs k (by omega))
    by_cases hk : Lib.keeps d m = true
    · rw [if_pos hk]
      have hlt : ∀ x ∈ Lib.compactUpTo d m, x < d[m]! := by
        intro x hx
        cases m with
        | zero => simp [Lib.compactUpTo] at hx
        | succ k =>
          have e1 := h3 k rfl x hx
          have e2 := hs k (by omega)
          simp [Lib.keeps] at hk
          omega
      refine ⟨?_, ?_, ?_⟩
      · intro j hj
        by_cases e : j = m
        · subst e; simp
        · exact List.mem_append.2 (.inl (h1 j (by omega)))
      · rw [List.pairwise_append]
        refine ⟨h2, by simp, ?_⟩
        intro a ha b hb
        rw [List.mem_singleton.1 hb]
        exact hlt a ha
      · intro k hk2 x hx
        obtain rfl : m = k := by omega
        rcases List.mem_append.1 hx with h | h
        · exact hle x h
        · rw [List.mem_singleton.1 h]; exact Int.le_refl _
    · rw [if_neg hk, List.append_nil]
      refine ⟨?_, h2, ?_⟩
      · intro j hj
        by_cases e : j = m
        · subst e
          simp [Lib.keeps] at hk
          obtain ⟨k0, k1⟩ := hk
          rw [k1]
          exact h1 _ (by omega)
        · exact h1 j (by omega)
      · intro k hk2 x hx
        obtain rfl : m = k := by omega
        exact hle x hx
theorem asc_eq : ∀ {xs ys : List Int}, xs.Pairwise (· < ·) → ys.Pairwise (· < ·) → (∀ t, t ∈ xs ↔ t ∈ ys) → xs = ys
  | [], [], _, _, _ => rfl
  | [], y :: ys, _, _, h => by have := (h y).2 (by simp); simp at this
  | x :: xs, [], _, _, h => by have := (h x).1 (by simp); simp at this
  | x :: xs, y :: ys, hx, hy, h => by
    rw [List.pairwise_cons] at hx hy
    have e : x = y := by
      rcases List.mem_cons.1 ((h x).1 (by simp)) with e | e
      · exact e
      · rcases List.mem_cons.1 ((h y).2 (by simp)) with e2 | e2
        · exact e2.symm
        · have := hy.1 x e
          have := hx.1 y e2
          omega
    subst e
    rw [asc_eq hx.2 hy.2 (fun t => ?_)]
    constructor
    · intro ht
      have := hx.1 t ht
      rcases List.mem_cons.1 ((h t).1 (List.mem_cons_of_mem _ ht)) with e | e
      · omega
      · exact e
    · intro ht
      have := hy.1 t ht
      rcases List.mem_cons.1 ((h t).2 (List.mem_cons_of_mem _ ht)) with e | e
      · omega
      · exact e
def srt (zs : List Int) : List Int := zs.mergeSort (fun x y => decide (x ≤ y))
def cmp (zs : List Int) : List Int := Lib.compact (srt zs)
theorem srt_len (zs : List Int) : (srt zs).length = zs.length := by unfold srt; rw [List.length_mergeSort]
theorem mem_srt (zs : List Int) (x : Int) : x ∈ srt zs ↔ x ∈ zs := by unfold srt; exact List.mem_mergeSort
theorem srt_sorted (zs : List Int) : (srt zs).Pairwise (· ≤ ·) := by
  have h := List.pairwise_mergeSort (le := fun x y : Int => decide (x ≤ y)) (by intro a b c; simp; omega) (by intro a b; simp; omega) (zs)
  unfold srt
  exact h.imp (fun {a b} hab => of_decide_eq_true hab)
theorem srt_step (zs : List Int) : ∀ j, j + 1 < (srt zs).toArray.size → (srt zs).toArray[j]! ≤ (srt zs).toArray[j + 1]! := by
  intro j hj
  have hj' : j + 1 < (srt zs).length := by simpa using hj
  have := List.pairwise_iff_getElem.1 (srt_sorted zs) j (j + 1) (by omega) hj' (by omega)
  rw [get_bang hj', get_bang (by omega)]
  simpa [List.getD, hj', show j < (srt zs).length by omega] using this
theorem mem_cmp (zs : List Int) (x : Int) : x ∈ cmp zs ↔ x ∈ zs := by
  rw [← mem_srt zs x]
  unfold cmp Lib.compact
  constructor
  · intro h
    obtain ⟨j, hj, rfl⟩ := up_mem _ _ _ h
    rw [get_bang hj]
    simp [List.getD, hj]
  · intro h
    obtain ⟨j, hj, rfl⟩ := List.getElem_of_mem h
    have := (up_asc _ (srt_step zs) (srt zs).length (by simp)).1 j hj
    rw [get_bang hj] at this
    simpa [List.getD, hj] using this
theorem pair_cmp (zs : List Int) : (cmp zs).Pairwise (· < ·) := (up_asc _ (srt_step zs) (srt zs).length (by simp)).2.1
theorem OwnN.open {base n c : Nat} {a : Option Addr} {W : World} {xs : List Int} (h : OwnN base W (.slice a n c) xs) (h0 : 0 < n) :
    n = xs.length ∧ ∃ g cur, a = some ⟨g, 0, none⟩ ∧ base ≤ g ∧ W.heap[g]? = some (.cells cur 3 (0, 0)) ∧ n ≤ c ∧ c ≤ maxLen ∧ cur.size = c ∧ ∀ j, j < xs.length → cur[j]? = some (.int .i64 (xs.getD j 0)) := by
  rcases h.2.2 with ⟨e, e2⟩ | ⟨g, cap, cur, e, hg, hb, hn, hm, hs, ht⟩
  · cases e; omega
  · obtain ⟨a', c', e'⟩ := h.form
    cases e'
    cases e
    refine ⟨rfl, g, cur, rfl, hg, hb, hn, hm, by omega, fun j hj => ?_⟩
    have e1 := valsN_get xs j hj
    rw [← ht, Nat.mul_one, List.getElem?_take_of_lt hj] at e1
    simpa using e1
open Go.Sort in
theorem holds_cells {W : World} {g : Nat} {cur : Array Value} {T : TypeId} {xs : List Int} (hb : W.heap[g]? = some (.cells cur T (0, 0))) (hc : ∀ j, j < xs.length → cur[j]? = some (.int .i64 (xs.getD j 0))) : Holds (Value.int .i64) W g 0 xs.toArray := by
  intro j hj
  have hj' : j < xs.length := by simpa using hj
  rw [get_bang hj', Nat.zero_add]
  refine ⟨?_, ?_⟩
  · have := hc j hj'
    simp only [World.cell?, hb]
    simpa using this
  · simp [World.frozen?, hb]
theorem behind_sort {base g c : Nat} {W : World} {xs ts : List Int} {n : Nat} {os : Array Obj} (hl : ts.length = xs.length) (ht : ∀ x ∈ ts, -9223372036854775808 ≤ x ∧ x < 9223372036854775808) (h : OwnN base W (.slice (some ⟨g, 0, none⟩) xs.length c) xs) (h0 : 0 < xs.length) (hB : base ≤ W.heap.size) :
    OwnN base (Go.Sort.grow (Go.Sort.putRow (Value.int .i64) (Go.Sort.ahead W n) g 0 ts.toArray) os) (.slice (some ⟨g, 0, none⟩) xs.length c) ts ∧ Below base W (Go.Sort.grow (Go.Sort.putRow (Value.int .i64) (Go.Sort.ahead W n) g 0 ts.toArray) os) := by
  obtain ⟨_, g', cur, e, hg, hb, hn, hm, hs, hc⟩ := h.open h0
  cases e
  refine ⟨⟨ht, ?_⟩, ?_⟩
  · have := ownsRow_sortedI (n := n) (os := os) hl hg hb hn hm (by omega)
    rw [hl]
    exact this
  · exact (Below.refl _ _).grown (grownBy_sortedI ts.toArray) hB (fun k hk => by cases hk; exact hg)
theorem behind_put {base g c : Nat} {W : World} {xs ts : List Int} {n : Nat} (hl : ts.length = xs.length) (ht : ∀ x ∈ ts, -9223372036854775808 ≤ x ∧ x < 9223372036854775808) (h : OwnN base W (.slice (some ⟨g, 0, none⟩) xs.length c) xs) (h0 : 0 < xs.length) (hB : base ≤ W.heap.size) :
    OwnN base (Go.Sort.putRow (Value.int .i64) (Go.Sort.ahead W n) g 0 ts.toArray) (.slice (some ⟨g, 0, none⟩) xs.length c) ts ∧ Below base W (Go.Sort.putRow (Value.int .i64) (Go.Sort.ahead W n) g 0 ts.toArray) := by
  have := behind_sort (n := n) (os := #[]) hl ht h h0 hB
  rw [Go.Sort.grow_empty] at this
  exact this
/-- The feasts of a year. -/
def feastsE (H : Nat → Ho) (y : Int) (k : Nat) : List Int := cmp (hds H y k)
theorem mem_feasts {H : Nat → Ho} {y x : Int} {k : Nat} : x ∈ feastsE H y k ↔ x ∈ hds H y k := mem_cmp _ _
theorem pair_feasts (H : Nat → Ho) (y : Int) (k : Nat) : (feastsE H y k).Pairwise (· < ·) := pair_cmp _
theorem feasts_len (H : Nat → Ho) (y : Int) (k : Nat) : (feastsE H y k).length ≤ 2 * k := by
  have h1 := compact_le (srt (hds H y k))
  have h2 := srt_len (hds H y k)
  have h3 := hds_len H y k
  unfold feastsE cmp
  omega
end Go.Proofs.YtgedcfgmfhlkdaaDoor
