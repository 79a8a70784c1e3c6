/- What follows of tables: a version more, and going from version to version. -/
import Derived.Test.YthlpigffjbhmoaaDoorVSli
import Derived.Test.YthlpigffjbhmoaaDoorVGets
set_option linter.unusedVariables false
set_option linter.unusedSimpArgs false
namespace Go.Proofs.YthlpigffjbhmoaaDoor
open Go.RowKit Go.Shelf
theorem f_inj {l : List Ve} (h : l.Pairwise Ahead) {u v : Ve} (hu : u ∈ l) (hv : v ∈ l) (e : u.f = v.f) : u = v := by
  obtain ⟨i, hi, rfl⟩ := List.getElem_of_mem hu
  obtain ⟨j, hj, rfl⟩ := List.getElem_of_mem hv
  rcases Nat.lt_trichotomy i j with q | q | q
  · have := (List.pairwise_iff_getElem.1 h i j hi hj q).1; omega
  · subst q; rfl
  · have := (List.pairwise_iff_getElem.1 h j i hj hi q).1; omega
/-- The version of an instant. -/
theorem ver_is {l : List Ve} (h : TabMay l) (t : Int) : (∃ u, verO l t = some u ∧ u ∈ l ∧ u.f ≤ t ∧ ∀ z ∈ l, z.f ≤ t → z.f ≤ u.f) ∨ (verO l t = none ∧ ∀ z ∈ l, t < z.f) := by
  have hp := tab_pair _ l rfl h
  by_cases h0 : 0 < cnt l t
  · have hl := cnt_le l t
    obtain ⟨u, hu⟩ : ∃ u, l[cnt l t - 1]? = some u := ⟨_, List.getElem?_eq_getElem (by omega)⟩
    refine .inl ⟨u, by unfold verO; rw [if_pos ⟨h, h0⟩]; exact hu, List.mem_of_getElem? hu, (cnt_iff hp hu t).2 (by omega), fun z hz hzt => ?_⟩
    obtain ⟨i, hi, rfl⟩ := List.getElem_of_mem hz
    have hi2 := (cnt_iff hp (List.getElem?_eq_getElem hi) t).1 hzt
    by_cases e : i = cnt l t - 1
    · have : l[i]? = some u := by rw [e]; exact hu
      rw [List.getElem?_eq_getElem hi] at this
      cases this
      exact Int.le_refl _
    · obtain ⟨hj, e2⟩ := List.getElem?_eq_some_iff.1 hu
      have := (List.pairwise_iff_getElem.1 hp i (cnt l t - 1) hi hj (by omega)).1
      rw [e2] at this
      omega
  · refine .inr ⟨by unfold verO; rw [if_neg (fun q => h0 q.2)], fun z hz => ?_⟩
    obtain ⟨i, hi, rfl⟩ := List.getElem_of_mem hz
    have := cnt_iff hp (List.getElem?_eq_getElem hi) t
    omega
theorem ver_some_of {l : List Ve} (h : TabMay l) {t : Int} {u : Ve} (hu : u ∈ l) (hut : u.f ≤ t) (hmax : ∀ z ∈ l, z.f ≤ t → z.f ≤ u.f) : verO l t = some u := by
  rcases ver_is h t with ⟨y, e, hy, hyt, hym⟩ | ⟨_, hn⟩
  · rw [e, f_inj (tab_pair _ l rfl h) hy hu (by have := hmax y hy hyt; have := hym u hu hut; omega)]
  · have := hn u hu; omega
theorem ver_none_of {l : List Ve} (h : TabMay l) {t : Int} (hn : ∀ z ∈ l, t < z.f) : verO l t = none := by
  rcases ver_is h t with ⟨y, _, hy, hyt, _⟩ | ⟨e, _⟩
  · have := hn y hy; omega
  · exact e
theorem next_is {l : List Ve} (h : TabMay l) (t : Int) : (∃ u, nextO l t = some u.f ∧ u ∈ l ∧ t < u.f ∧ ∀ z ∈ l, t < z.f → u.f ≤ z.f) ∨ (nextO l t = none ∧ ∀ z ∈ l, z.f ≤ t) := by
  have hp := tab_pair _ l rfl h
  have hl := cnt_le l t
  by_cases h0 : cnt l t = l.length
  · refine .inr ⟨by unfold nextO; rw [if_pos h, List.getElem?_eq_none (by omega)]; rfl, fun z hz => ?_⟩
    obtain ⟨i, hi, rfl⟩ := List.getElem_of_mem hz
    exact (cnt_iff hp (List.getElem?_eq_getElem hi) t).2 (by omega)
  · obtain ⟨u, hu⟩ : ∃ u, l[cnt l t]? = some u := ⟨_, List.getElem?_eq_getElem (by omega)⟩
    have hut := cnt_iff hp hu t
    refine .inl ⟨u, by unfold nextO; rw [if_pos h, hu]; rfl, List.mem_of_getElem? hu, by omega, fun z hz hzt => ?_⟩
    obtain ⟨i, hi, rfl⟩ := List.getElem_of_mem hz
    have hi2 := cnt_iff hp (List.getElem?_eq_getElem hi) t
    by_cases e : i = cnt l t
    · have : l[i]? = some u := by rw [e]; exact hu
      rw [List.getElem?_eq_getElem hi] at this
      cases this
      exact Int.le_refl _
    · obtain ⟨hj, e2⟩ := List.getElem?_eq_some_iff.1 hu
      have := (List.pairwise_iff_getElem.1 hp (cnt l t) i hj hi (by omega)).1
      rw [e2] at this
      omega
theorem mem_withL {l : List Ve} {v z : Ve} : z ∈ withL l v ↔ z = v ∨ (z ∈ l ∧ z.f ≠ v.f) := by
  unfold withL
  simp only [List.mem_append, List.mem_filter, List.mem_cons, decide_eq_true_eq]
  constructor
  · rintro (⟨h1, h2⟩ | rfl | ⟨h1, h2⟩)
    · exact .inr ⟨h1, by omega⟩
    · exact .inl rfl
    · exact .inr ⟨h1, by omega⟩
  · rintro (rfl | ⟨h1, h2⟩)
    · exact .inr (.inl rfl)
    · rcases Int.lt_or_lt_of_ne h2 with q | q
      · exact .inl ⟨h1, q⟩
      · exact .inr (.inr ⟨h1, q⟩)
/-- Ahead of its From a version more changes nothing. -/
theorem more_ahead {l : List Ve} {v : Ve} (h : WithMay l v) {t : Int} (ht : t < v.f) : verO (withL l v) t = verO l t := by
  rcases ver_is h.1 t with ⟨u, e, hu, hut, hm⟩ | ⟨e, hn⟩
  · rw [e]
    refine ver_some_of h.2 (mem_withL.2 (.inr ⟨hu, by omega⟩)) hut (fun z hz hzt => ?_)
    rcases mem_withL.1 hz with rfl | ⟨h1, _⟩
    · omega
    · exact hm z h1 hzt
  · rw [e]
    refine ver_none_of h.2 (fun z hz => ?_)
    rcases mem_withL.1 hz with rfl | ⟨h1, _⟩
    · exact ht
    · exact hn z h1
/-- From the next From on, too. -/
theorem more_behind {l : List Ve} {v : Ve} (h : WithMay l v) {t q : Int} (hq : nextO (withL l v) v.f = some q) (ht : q ≤ t) : verO (withL l v) t = verO l t := by
  rcases next_is h.2 v.f with ⟨y, e, hy, hyv, _⟩ | ⟨e, _⟩
  · rw [e] at hq
    cases hq
    have hyl : y ∈ l := by
      rcases mem_withL.1 hy with rfl | ⟨h1, _⟩
      · omega
      · exact h1
    rcases ver_is h.2 t with ⟨u, e2, hu, hut, hm⟩ | ⟨_, hn⟩
    · rw [e2]
      have huy := hm y hy ht
      have hul : u ∈ l := by
        rcases mem_withL.1 hu with rfl | ⟨h1, _⟩
        · omega
        · exact h1
      refine (ver_some_of h.1 hul hut (fun z hz hzt => ?_)).symm
      by_cases q : z.f = v.f
      · omega
      · exact hm z (mem_withL.2 (.inr ⟨hz, q⟩)) hzt
    · have := hn y hy; omega
  · rw [e] at hq; cases hq
/-- Between these it says the price. -/
theorem more_between {l : List Ve} {v : Ve} (h : WithMay l v) {t : Int} (ht : v.f ≤ t) (hn : ∀ q, nextO (withL l v) v.f = some q → t < q) : verO (withL l v) t = some v := by
  refine ver_some_of h.2 (mem_withL.2 (.inl rfl)) ht (fun z hz hzt => ?_)
  rcases next_is h.2 v.f with ⟨y, e, hy, hyv, hm⟩ | ⟨e, hm⟩
  · have := hn _ e
    rcases Int.lt_or_le v.f z.f with q | q
    · have := hm z hz q; omega
    · exact q
  · exact hm z hz
/-- A version in its own place. -/
theorem with_own {l : List Ve} (h : TabMay l) {i : Nat} {v : Ve} (hv : l[i]? = some v) : withL l v = l := by
  have hp := tab_pair _ l rfl h
  have e1 : cnt l v.f = i + 1 := by
    have h1 := (cnt_iff hp hv v.f).1 (Int.le_refl _)
    have hl := cnt_le l v.f
    rcases Nat.lt_or_ge (i + 1) (cnt l v.f) with q | q
    · obtain ⟨u, hu⟩ : ∃ u, l[i + 1]? = some u := ⟨_, List.getElem?_eq_getElem (by omega)⟩
      have h2 := (cnt_iff hp hu v.f).2 q
      have h3 := (tab_at h hu).2.2 v (by rw [List.take_add_one, hv]; simp)
      unfold Ahead at h3
      omega
    · omega
  have e2 : cntB l v.f = i := by
    rcases begin_is hp v.f with ⟨_, q⟩ | ⟨_, q, _⟩
    · exact absurd rfl (q v (by rw [e1, Nat.add_sub_cancel]; exact hv) (by omega))
    · omega
  rw [← withL_is h, e1, e2]
  have hi := (List.getElem?_eq_some_iff.1 hv).1
  have := List.take_append_drop i l
  rw [List.drop_eq_getElem_cons hi, (List.getElem?_eq_some_iff.1 hv).2] at this
  exact this
theorem cnt_at {l : List Ve} (h : TabMay l) {i : Nat} {v : Ve} (hv : l[i]? = some v) : cnt l v.f = i + 1 := by
  have hp := tab_pair _ l rfl h
  have h1 := (cnt_iff hp hv v.f).1 (Int.le_refl _)
  have hl := cnt_le l v.f
  rcases Nat.lt_or_ge (i + 1) (cnt l v.f) with q | q
  · obtain ⟨u, hu⟩ : ∃ u, l[i + 1]? = some u := ⟨_, List.getElem?_eq_getElem (by omega)⟩
    have h2 := (cnt_iff hp hu v.f).2 q
    have h3 := (tab_at h hu).2.2 v (by rw [List.take_add_one, hv]; simp)
    unfold Ahead at h3
    omega
  · omega
theorem at_own {l : List Ve} (h : TabMay l) {i : Nat} {v : Ve} (hv : l[i]? = some v) : atO l v.f = some (i : Int) := by
  unfold atO
  rw [cnt_at h hv, if_pos ⟨h, by omega⟩]
  congr 1
  omega
/-- Where one stands who has gone through the first i versions. -/
def stand (l : List Ve) (i : Nat) : Int := if i = 0 then -1 else ((l[i - 1]?).map (·.f)).getD 0
theorem stand_succ {l : List Ve} {i : Nat} {v : Ve} (hv : l[i]? = some v) : stand l (i + 1) = v.f := by
  unfold stand
  rw [if_neg (by omega), Nat.add_sub_cancel, hv]
  rfl
theorem cnt_stand {l : List Ve} (h : TabMay l) {i : Nat} (hi : i ≤ l.length) : cnt l (stand l i) = i := by
  have hp := tab_pair _ l rfl h
  cases i with
  | zero =>
    show cnt l (-1) = 0
    refine List.countP_eq_zero.2 (fun v hv => ?_)
    have := (tab_ver h hv).1.1
    simp
    omega
  | succ i =>
    obtain ⟨v, hv⟩ : ∃ v, l[i]? = some v := ⟨_, List.getElem?_eq_getElem (by omega)⟩
    rw [stand_succ hv, cnt_at h hv]
theorem next_stand {l : List Ve} (h : TabMay l) {i : Nat} {v : Ve} (hv : l[i]? = some v) : nextO l (stand l i) = some v.f := by
  unfold nextO
  rw [if_pos h, cnt_stand h (Nat.le_of_lt (List.getElem?_eq_some_iff.1 hv).1), hv]
  rfl
theorem next_end {l : List Ve} (h : TabMay l) : nextO l (stand l l.length) = none := by
  unfold nextO
  rw [if_pos h, cnt_stand h (Nat.le_refl _), List.getElem?_eq_none (Nat.le_refl _)]
  rfl
theorem spans_whole {l : List Ve} (h : TabMay l) : spansL l (-1) 253402300800 = l.map (·.f) := by
  unfold spansL
  rw [if_pos h, List.filter_eq_self.2 (fun v hv => by
    have := (tab_ver h hv).1
    simp
    omega)]
end Go.Proofs.YthlpigffjbhmoaaDoor
