/- The instants of a local time: the extras, ascending and each once; what the search collects; and that it is the document's list. -/
import Derived.Lib.SlicesCompact
import Derived.Test.YtobnlcmamnoefaaDoorYLocal
set_option linter.unusedVariables false
set_option linter.unusedSimpArgs false
namespace Go.Proofs.YtobnlcmamnoefaaDoor
open Go.RowKit Go.Shelf
/-- The extras in the rules' order, behind none. -/
def exts (R : Nat → Rl) (len : Nat) : List Int := 0 :: (List.range len).map (fun k => (R k).x)
def extsS (R : Nat → Rl) (len : Nat) : List Int := (exts R len).mergeSort (fun x y => decide (x ≤ y))
def extsE (R : Nat → Rl) (len : Nat) : List Int := Lib.compact (extsS R len)
theorem exts_len (R : Nat → Rl) (len : Nat) : (exts R len).length = len + 1 := by simp [exts]
theorem extsS_len (R : Nat → Rl) (len : Nat) : (extsS R len).length = len + 1 := by unfold extsS; rw [List.length_mergeSort, exts_len]
theorem exts_succ (R : Nat → Rl) (len : Nat) : exts R (len + 1) = exts R len ++ [(R len).x] := by simp [exts, List.range_succ]
theorem compact_le (zs : List Int) : (Lib.compact zs).length ≤ zs.length := by
  unfold Lib.compact Lib.compactUpTo
  rw [List.length_map]
  exact Nat.le_trans (List.length_filter_le _ _) (by simp)
theorem extsE_len (R : Nat → Rl) (len : Nat) : (extsE R len).length ≤ len + 1 := by
  have := compact_le (extsS R len)
  rw [extsS_len] at this
  exact this
theorem get_bang {l : List Int} {j : Nat} (h : j < l.length) : l.toArray[j]! = l.getD j 0 := by
  simp [List.getD, h]
theorem up_mem (d : Array Int) (m : Nat) (x : Int) : x ∈ Lib.compactUpTo d m → ∃ j, j < m ∧ x = d[j]! := by
  intro h
  unfold Lib.compactUpTo at h
  simp only [List.mem_map, List.mem_filter, List.mem_range] at h
  obtain ⟨j, ⟨hj, _⟩, rfl⟩ := h
  exact ⟨j, hj, rfl⟩
theorem up_asc (d : Array Int) (hs : ∀ j, j + 1 < d.size → d[j]! ≤ d[j + 1]!) (m : Nat) (hm : m ≤ d.size) :
    (∀ j, j < m → d[j]! ∈ Lib.compactUpTo d m) ∧ (Lib.compactUpTo d m).Pairwise (· < ·) ∧ (∀ k, m = k + 1 → ∀ x ∈ Lib.compactUpTo d m, x ≤ d[k]!) := by
  induction m with
  | zero => exact ⟨by intro j hj; omega, by simp [Lib.compactUpTo], by intro k hk; omega⟩
  | succ m ih =>
    obtain ⟨h1, h2, h3⟩ := ih (by omega)
    rw [Lib.compactUpTo_succ]
    have hle : ∀ x ∈ Lib.compactUpTo d m, x ≤ d[m]! := by
      intro x hx
      cases m with
      | zero => simp [Lib.compactUpTo] at hx
      | succ k => exact Int.le_trans (h3 k rfl x hx) (hs k (by omega))
    by_cases hk : Lib.keeps d m = true
    · rw [if_pos hk]
      have hlt : ∀ x ∈ Lib.compactUpTo d m, x < d[m]! := by
        intro x hx
        cases m with
        | zero => simp [Lib.compactUpTo] at hx
        | succ k =>
          have e1 := h3 k rfl x hx
          have e2 := hs k (by omega)
          simp [Lib.keeps] at hk
          omega
      refine ⟨?_, ?_, ?_⟩
      · intro j hj
        by_cases e : j = m
        · subst e; simp
        · exact List.mem_append.2 (.inl (h1 j (by omega)))
      · rw [List.pairwise_append]
        refine ⟨h2, by simp, ?_⟩
        intro a ha b hb
        rw [List.mem_singleton.1 hb]
        exact hlt a ha
      · intro k hk2 x hx
        obtain rfl : m = k := by omega
        rcases List.mem_append.1 hx with h | h
        · exact hle x h
        · rw [List.mem_singleton.1 h]; exact Int.le_refl _
    · rw [if_neg hk, List.append_nil]
      refine ⟨?_, h2, ?_⟩
      · intro j hj
        by_cases e : j = m
        · subst e
          simp [Lib.keeps] at hk
          obtain ⟨k0, k1⟩ := hk
          rw [k1]
          exact h1 _ (by omega)
        · exact h1 j (by omega)
      · intro k hk2 x hx
        obtain rfl : m = k := by omega
        exact hle x hx
theorem extsS_sorted (R : Nat → Rl) (len : Nat) : (extsS R len).Pairwise (· ≤ ·) := by
  have h := List.pairwise_mergeSort (le := fun x y : Int => decide (x ≤ y)) (by intro a b c; simp; omega) (by intro a b; simp; omega) (exts R len)
  unfold extsS
  exact h.imp (fun {a b} hab => of_decide_eq_true hab)
theorem extsS_step (R : Nat → Rl) (len : Nat) : ∀ j, j + 1 < (extsS R len).toArray.size → (extsS R len).toArray[j]! ≤ (extsS R len).toArray[j + 1]! := by
  intro j hj
  have hj' : j + 1 < (extsS R len).length := by simpa using hj
  have := List.pairwise_iff_getElem.1 (extsS_sorted R len) j (j + 1) (by omega) hj' (by omega)
  rw [get_bang hj', get_bang (by omega)]
  simpa [List.getD, hj', show j < (extsS R len).length by omega] using this
theorem mem_extsS (R : Nat → Rl) (len : Nat) (x : Int) : x ∈ extsS R len ↔ x = 0 ∨ ∃ k, k < len ∧ x = (R k).x := by
  unfold extsS
  rw [(List.mergeSort_perm _ _).mem_iff]
  simp only [exts, List.mem_cons, List.mem_map, List.mem_range]
  constructor
  · rintro (h | ⟨k, hk, rfl⟩)
    · exact .inl h
    · exact .inr ⟨k, hk, rfl⟩
  · rintro (h | ⟨k, hk, rfl⟩)
    · exact .inl h
    · exact .inr ⟨k, hk, rfl⟩
theorem mem_extsE (R : Nat → Rl) (len : Nat) (x : Int) : x ∈ extsE R len ↔ x = 0 ∨ ∃ k, k < len ∧ x = (R k).x := by
  rw [← mem_extsS]
  unfold extsE Lib.compact
  constructor
  · intro h
    obtain ⟨j, hj, rfl⟩ := up_mem _ _ _ h
    rw [get_bang hj]
    simp [List.getD, hj]
  · intro h
    obtain ⟨j, hj, rfl⟩ := List.getElem_of_mem h
    have := (up_asc _ (extsS_step R len) (extsS R len).length (by simp)).1 j hj
    rw [get_bang hj] at this
    simpa [List.getD, hj] using this
theorem pair_extsE (R : Nat → Rl) (len : Nat) : (extsE R len).Pairwise (· < ·) := (up_asc _ (extsS_step R len) (extsS R len).length (by simp)).2.1
theorem extsE_bounds {off : Int} {R : Nat → Rl} {len : Nat} (hz : ZoneIs off R len) : ∀ x ∈ extsE R len, 0 ≤ x ∧ x ≤ 7200 := by
  intro x hx
  rcases (mem_extsE R len x).1 hx with rfl | ⟨k, hk, rfl⟩
  · omega
  · have := (hz.2.2 k hk).2.1; omega
theorem exts_bounds {off : Int} {R : Nat → Rl} {len : Nat} (hz : ZoneIs off R len) (k : Nat) (hk : k ≤ len) : ∀ x ∈ exts R k, 0 ≤ x ∧ x ≤ 7200 := by
  intro x hx
  simp only [exts, List.mem_cons, List.mem_map, List.mem_range] at hx
  rcases hx with rfl | ⟨j, hj, rfl⟩
  · omega
  · have := (hz.2.2 j (by omega)).2.1; omega
/-- Is loc - x a standard time whose extra is x? -/
def hitX (R : Nat → Rl) (len : Nat) (loc x : Int) : Prop := 0 ≤ loc - x ∧ xOf R len (yearI (loc - x)) (loc - x) = x
instance (R : Nat → Rl) (len : Nat) (loc x : Int) : Decidable (hitX R len loc x) := by unfold hitX; infer_instance
def colX (off : Int) (R : Nat → Rl) (len : Nat) (loc : Int) (xs : List Int) : List Int := (xs.filter (fun x => decide (hitX R len loc x))).map (fun x => loc - x - off)
def insts (off : Int) (R : Nat → Rl) (len : Nat) (loc : Int) : List Int := (colX off R len loc (extsE R len)).reverse
section
variable {off : Int} {R : Nat → Rl} {len : Nat} {loc : Int}
theorem colX_nil : colX off R len loc [] = [] := rfl
theorem colX_yes {xs : List Int} {x : Int} (h : hitX R len loc x) : colX off R len loc (xs ++ [x]) = colX off R len loc xs ++ [loc - x - off] := by simp [colX, h]
theorem colX_no {xs : List Int} {x : Int} (h : ¬ hitX R len loc x) : colX off R len loc (xs ++ [x]) = colX off R len loc xs := by simp [colX, h]
theorem colX_le (xs : List Int) : (colX off R len loc xs).length ≤ xs.length := by
  unfold colX
  rw [List.length_map]
  exact List.length_filter_le _ _
theorem colX_cut {q : List Int} {x : Int} (hp : q ++ [x] <+: extsE R len) (hx : loc - x < 0) : colX off R len loc (extsE R len) = colX off R len loc q := by
  obtain ⟨r, hr⟩ := hp
  have hs := pair_extsE R len
  rw [← hr] at hs ⊢
  have hn : ∀ y ∈ [x] ++ r, ¬ hitX R len loc y := by
    intro y hy h
    have h0 := h.1
    rcases List.mem_append.1 hy with e | e
    · rw [List.mem_singleton.1 e] at h0; omega
    · have := (List.pairwise_append.1 hs).2.2 x (by simp) y e
      omega
  unfold colX
  rw [List.append_assoc, List.filter_append, show ([x] ++ r).filter (fun x => decide (hitX R len loc x)) = [] from List.filter_eq_nil_iff.2 (fun y hy => by simpa using hn y hy), List.append_nil]
theorem insts_len : (insts off R len loc).length ≤ len + 1 := by
  unfold insts
  rw [List.length_reverse]
  exact Nat.le_trans (colX_le _) (extsE_len R len)
theorem xOf_mem (y s : Int) : xOf R len y s ∈ extsE R len := by
  rw [mem_extsE]
  rcases rule_cases R len y with ⟨k, hk, hi, hy⟩ | hi
  · rw [xOf_some hi]
    split
    · exact .inr ⟨k, hk, rfl⟩
    · exact .inl rfl
  · exact .inl (xOf_none hi)
theorem mem_insts (hz : ZoneIs off R len) (hl : loc < 253402300800) (t : Int) : t ∈ insts off R len loc ↔ OffIs off R len t ∧ t + offT off R len t = loc := by
  unfold insts colX
  rw [List.mem_reverse]
  simp only [List.mem_map, List.mem_filter, decide_eq_true_eq]
  constructor
  · rintro ⟨x, ⟨hx, h0, hh⟩, rfl⟩
    have hb := extsE_bounds hz x hx
    have e : loc - x - off + off = loc - x := by omega
    have ho : offT off R len (loc - x - off) = off + x := by rw [offT_x, e, hh]
    refine ⟨⟨⟨by omega, by omega⟩, ?_⟩, by omega⟩
    have : nOf off R len (yearI (loc - x - off + off)) (loc - x - off + off) = off + x := ho
    omega
  · rintro ⟨⟨⟨h0, h1⟩, h2⟩, h3⟩
    have ho := offT_x off R len t
    refine ⟨xOf R len (yearI (t + off)) (t + off), ⟨xOf_mem _ _, ?_, ?_⟩, by omega⟩
    · omega
    · rw [show loc - xOf R len (yearI (t + off)) (t + off) = t + off by omega]
theorem pair_insts : (insts off R len loc).Pairwise (· < ·) := by
  unfold insts colX
  rw [List.pairwise_reverse, List.pairwise_map]
  refine List.Pairwise.imp ?_ ((pair_extsE R len).filter _)
  intro a b h
  omega
theorem insts_bounds (hz : ZoneIs off R len) (h0 : 0 ≤ loc) (hl : loc < 253402300800) : ∀ t ∈ insts off R len loc, -50400 ≤ t ∧ t < 253402400800 := by
  intro t ht
  obtain ⟨⟨⟨h0, h1⟩, h2⟩, h3⟩ := (mem_insts hz hl t).1 ht
  have := hz.1
  omega
/-- Two ascending lists with the same members are one. -/
theorem asc_eq : ∀ {xs ys : List Int}, xs.Pairwise (· < ·) → ys.Pairwise (· < ·) → (∀ t, t ∈ xs ↔ t ∈ ys) → xs = ys
  | [], [], _, _, _ => rfl
  | [], y :: ys, _, _, h => by have := (h y).2 (by simp); simp at this
  | x :: xs, [], _, _, h => by have := (h x).1 (by simp); simp at this
  | x :: xs, y :: ys, hx, hy, h => by
    rw [List.pairwise_cons] at hx hy
    have e : x = y := by
      rcases List.mem_cons.1 ((h x).1 (by simp)) with e | e
      · exact e
      · rcases List.mem_cons.1 ((h y).2 (by simp)) with e2 | e2
        · exact e2.symm
        · have := hy.1 x e
          have := hx.1 y e2
          omega
    subst e
    rw [asc_eq hx.2 hy.2 (fun t => ?_)]
    constructor
    · intro ht
      have := hx.1 t ht
      rcases List.mem_cons.1 ((h t).1 (List.mem_cons_of_mem _ ht)) with e | e
      · omega
      · exact e
    · intro ht
      have := hy.1 t ht
      rcases List.mem_cons.1 ((h t).2 (List.mem_cons_of_mem _ ht)) with e | e
      · omega
      · exact e
theorem placeI_cons (x : Int) (l : List Int) (t : Int) : placeI (x :: l) t = if x < t then placeI l t + 1 else 0 := by
  unfold placeI
  rw [List.takeWhile_cons]
  by_cases h : x < t <;> simp [h]
theorem insI_cons (x : Int) (l : List Int) (t : Int) : insI (x :: l) t = if x < t then x :: insI l t else if x = t then x :: l else t :: x :: l := by
  unfold insI
  rw [placeI_cons]
  by_cases h : x < t
  · simp only [h, if_true]
    simp only [List.length_cons, Nat.add_lt_add_iff_right, List.getD_cons_succ, List.take_succ_cons, List.drop_succ_cons]
    split <;> simp
  · simp only [h, if_false]
    by_cases e : x = t <;> simp [e]
theorem insI_asc (l : List Int) (t : Int) (h : l.Pairwise (· < ·)) : (insI l t).Pairwise (· < ·) ∧ ∀ x, x ∈ insI l t ↔ x ∈ l ∨ x = t := by
  induction l with
  | nil => simp [insI, placeI]
  | cons y l ih =>
    rw [List.pairwise_cons] at h
    obtain ⟨i1, i2⟩ := ih h.2
    rw [insI_cons]
    by_cases hy : y < t
    · rw [if_pos hy]
      refine ⟨List.pairwise_cons.2 ⟨?_, i1⟩, ?_⟩
      · intro z hz
        rcases (i2 z).1 hz with e | e
        · exact h.1 z e
        · omega
      · intro x
        rw [List.mem_cons, i2, List.mem_cons, or_assoc]
    · rw [if_neg hy]
      by_cases e : y = t
      · rw [if_pos e]
        refine ⟨List.pairwise_cons.2 h, ?_⟩
        intro x
        rw [List.mem_cons]
        subst e
        constructor
        · intro h; exact .inl h
        · rintro (h | h)
          · exact h
          · exact .inl h
      · rw [if_neg e]
        refine ⟨List.pairwise_cons.2 ⟨?_, List.pairwise_cons.2 h⟩, ?_⟩
        · intro z hz
          rcases List.mem_cons.1 hz with e2 | e2
          · omega
          · have := h.1 z e2; omega
        · intro x
          rw [List.mem_cons, or_comm]
theorem runI_asc (j : Nat) : ∀ l : List Int, l.Pairwise (· < ·) → (runI off R len loc j l).Pairwise (· < ·) ∧ ∀ t, t ∈ runI off R len loc j l ↔ t ∈ l ∨ ∃ k, k < j ∧ hitK off R len loc k ∧ t = loc - nK off R k := by
  induction j with
  | zero => intro l hl; exact ⟨hl, fun t => by simp [runI]⟩
  | succ j ih =>
    intro l hl
    by_cases hk : hitK off R len loc j
    · have e : stepI off R len loc j l = insI l (loc - nK off R j) := by unfold stepI; rw [if_pos hk]
      have h1 := insI_asc l (loc - nK off R j) hl
      obtain ⟨h2, h3⟩ := ih _ h1.1
      unfold runI
      rw [e]
      refine ⟨h2, fun t => ?_⟩
      rw [h3, h1.2]
      constructor
      · rintro ((h | h) | ⟨k, hk2, h⟩)
        · exact .inl h
        · exact .inr ⟨j, by omega, hk, h⟩
        · exact .inr ⟨k, by omega, h⟩
      · rintro (h | ⟨k, hk2, h4, h5⟩)
        · exact .inl (.inl h)
        · by_cases e : k = j
          · subst e; exact .inl (.inr h5)
          · exact .inr ⟨k, by omega, h4, h5⟩
    · have e : stepI off R len loc j l = l := by unfold stepI; rw [if_neg hk]
      obtain ⟨h2, h3⟩ := ih l hl
      unfold runI
      rw [e]
      refine ⟨h2, fun t => ?_⟩
      rw [h3]
      constructor
      · rintro (h | ⟨k, hk2, h⟩)
        · exact .inl h
        · exact .inr ⟨k, by omega, h⟩
      · rintro (h | ⟨k, hk2, h4, h5⟩)
        · exact .inl h
        · by_cases e : k = j
          · subst e; exact absurd h4 hk
          · exact .inr ⟨k, by omega, h4, h5⟩
theorem insts_runI (hz : ZoneIs off R len) (hl : loc < 253402300800) : insts off R len loc = runI off R len loc (len + 1) [] := by
  obtain ⟨h1, h2⟩ := runI_asc (off := off) (R := R) (len := len) (loc := loc) (len + 1) [] List.Pairwise.nil
  refine asc_eq pair_insts h1 (fun t => ?_)
  rw [mem_insts hz hl, h2]
  constructor
  · rintro ⟨h3, h4⟩
    refine .inr ?_
    have ho := offT_x off R len t
    have hm := xOf_mem (R := R) (len := len) (yearI (t + off)) (t + off)
    rcases (mem_extsE R len _).1 hm with e | ⟨k, hk, e⟩
    · have en : loc - nK off R 0 = t := by simp only [nK, if_true]; omega
      refine ⟨0, by omega, ⟨?_, ?_⟩, en.symm⟩
      · rw [en]; exact h3
      · rw [en]; simp only [nK, if_true]; omega
    · have en : loc - nK off R (k + 1) = t := by simp only [nK, Nat.add_one_ne_zero, if_false, Nat.add_sub_cancel]; omega
      refine ⟨k + 1, by omega, ⟨?_, ?_⟩, en.symm⟩
      · rw [en]; exact h3
      · rw [en]; simp only [nK, Nat.add_one_ne_zero, if_false, Nat.add_sub_cancel]; omega
  · rintro (h | ⟨k, hk, ⟨h3, h4⟩, rfl⟩)
    · simp at h
    · exact ⟨h3, by omega⟩
end
end Go.Proofs.YtobnlcmamnoefaaDoor
