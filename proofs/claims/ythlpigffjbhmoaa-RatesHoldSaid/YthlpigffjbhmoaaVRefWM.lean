/- The document's With: its rows, as lists. -/
import Derived.Test.YthlpigffjbhmoaaVSli
set_option linter.unusedVariables false
set_option linter.unusedSimpArgs false
namespace Go.Proofs.Ythlpigffjbhmoaa
open Go.RowKit Go.Shelf
/-- Has the version been put in? -/
def dn (P : List Rw) (r : Rw) : Bool := P.any fun z => decide (r.f ≤ z.f)
/-- What has been put out of the rows P. -/
def wr1 (P : List Rw) (r : Rw) : List Rw := P.filter (fun z => decide (z.f < r.f)) ++ (if dn P r = true then [r] else []) ++ P.filter (fun z => decide (r.f < z.f))
def wrL (P : List Rw) (r : Rw) : List Rw := P.filter (fun z => decide (z.f < r.f)) ++ r :: P.filter (fun z => decide (r.f < z.f))
theorem wr_nil (r : Rw) : wr1 [] r = [] := rfl
theorem wr_len (P : List Rw) (r : Rw) : (wr1 P r).length ≤ P.length + 1 := by
  have h3 := List.length_eq_countP_add_countP (fun u : Rw => decide (u.f < r.f)) (l := P)
  have h4 : P.countP (fun u => decide (r.f < u.f)) ≤ P.countP (fun a => decide ¬decide (a.f < r.f) = true) := List.countP_mono_left fun u _ e => by
    have := of_decide_eq_true e
    simp
    omega
  unfold wr1
  rw [List.length_append, List.length_append, ← List.countP_eq_length_filter, ← List.countP_eq_length_filter]
  split
  · simp; omega
  · simp; omega
theorem dn_no {P : List Rw} {r : Rw} (h : dn P r = false) : ∀ z ∈ P, z.f < r.f := by
  intro z hz
  unfold dn at h
  rw [List.any_eq_false] at h
  have := h z hz
  simpa using this
theorem above_nil {P : List Rw} {r : Rw} (h : dn P r = false) : P.filter (fun z => decide (r.f < z.f)) = [] := by
  rw [List.filter_eq_nil_iff]
  intro z hz q
  have := dn_no h z hz
  have := of_decide_eq_true q
  omega
theorem dn_snoc (P : List Rw) (r z : Rw) : dn (P ++ [z]) r = (dn P r || decide (r.f ≤ z.f)) := by simp [dn]
theorem wr_more {P : List Rw} {r z : Rw} (h : dn P r = true) (hz : r.f < z.f) : wr1 (P ++ [z]) r = wr1 P r ++ [z] ∧ dn (P ++ [z]) r = true := by
  have e : dn (P ++ [z]) r = true := by rw [dn_snoc, h]; rfl
  refine ⟨?_, e⟩
  unfold wr1
  rw [e, h, List.filter_append, List.filter_append]
  simp [hz, show ¬ z.f < r.f by omega]
theorem wr_in {P : List Rw} {r z : Rw} (h : dn P r = false) (hz : r.f < z.f) : wr1 (P ++ [z]) r = (wr1 P r ++ [r]) ++ [z] ∧ dn (P ++ [z]) r = true := by
  have e : dn (P ++ [z]) r = true := by rw [dn_snoc, h]; simp; omega
  refine ⟨?_, e⟩
  unfold wr1
  rw [e, h, List.filter_append, List.filter_append, above_nil h]
  simp [hz, show ¬ z.f < r.f by omega]
theorem wr_eq {P : List Rw} {r z : Rw} (h : dn P r = false) (hz : z.f = r.f) : wr1 (P ++ [z]) r = wr1 P r ++ [r] ∧ dn (P ++ [z]) r = true := by
  have e : dn (P ++ [z]) r = true := by rw [dn_snoc, h]; simp; omega
  refine ⟨?_, e⟩
  unfold wr1
  rw [e, h, List.filter_append, List.filter_append, above_nil h]
  simp [hz]
theorem wr_less {P : List Rw} {r z : Rw} (h : dn P r = false) (hz : z.f < r.f) : wr1 (P ++ [z]) r = wr1 P r ++ [z] ∧ dn (P ++ [z]) r = false := by
  have e : dn (P ++ [z]) r = false := by rw [dn_snoc, h]; simp; omega
  refine ⟨?_, e⟩
  unfold wr1
  rw [e, h, List.filter_append, List.filter_append, above_nil h]
  simp [hz, show ¬ r.f < z.f by omega]
theorem wr_end {P : List Rw} {r : Rw} : (dn P r = true → wr1 P r = wrL P r) ∧ (dn P r = false → wr1 P r ++ [r] = wrL P r) := by
  constructor
  · intro h; unfold wr1 wrL; rw [h]; simp
  · intro h; unfold wr1 wrL; rw [h, above_nil h]; simp
theorem RwIs.cons {W : World} {g : Nat} {x : Rw} {xs : List Rw} {v : Ve} {l : List Ve} : RwIs W g (x :: xs) (v :: l) ↔ PrOf W g x v ∧ RwIs W g xs l := by
  constructor
  · intro h
    exact ⟨h.2 0 x v rfl rfl, by have := h.1; simpa using this, fun i r u hr hu => h.2 (i + 1) r u (by simpa using hr) (by simpa using hu)⟩
  · rintro ⟨h1, h2⟩
    have := (RwIs.one h1).app h2
    simpa using this
theorem RwIs.filter {W : World} {g : Nat} (p : Int → Bool) : ∀ {xs : List Rw} {l : List Ve}, RwIs W g xs l → RwIs W g (xs.filter (fun z => p z.f)) (l.filter (fun z => p z.f))
  | [], [], _ => RwIs.nil
  | [], v :: l, h => by have := h.1; simp at this
  | x :: xs, [], h => by have := h.1; simp at this
  | x :: xs, v :: l, h => by
    obtain ⟨h1, h2⟩ := RwIs.cons.1 h
    have ih := RwIs.filter p h2
    have e : x.f = v.f := h1.1
    by_cases q : p x.f = true
    · have q2 : p v.f = true := by rw [← e]; exact q
      simp only [List.filter_cons, q, q2, if_true]
      exact RwIs.cons.2 ⟨h1, ih⟩
    · have q1 : p x.f = false := by simpa using q
      have q2 : p v.f = false := by rw [← e]; exact q1
      simp only [List.filter_cons, q1, q2, Bool.false_eq_true, if_false]
      exact ih
theorem RwIs.wr {W : World} {g : Nat} {xs : List Rw} {l : List Ve} {r : Rw} {v : Ve} (h : RwIs W g xs l) (hr : PrOf W g r v) : RwIs W g (wrL xs r) (withL l v) := by
  unfold wrL withL
  rw [show r.f = v.f from hr.1]
  exact (h.filter (fun z => decide (z < v.f))).app (RwIs.cons.2 ⟨hr, h.filter (fun z => decide (v.f < z))⟩)
/-- Rows that are versions of a table rise. -/
theorem rows_rise {W : World} {g : Nat} {xs : List Rw} {l : List Ve} (h : RwIs W g xs l) (hp : l.Pairwise Ahead) {k : Nat} {z : Rw} (hz : xs[k]? = some z) : ∀ y ∈ xs.take k, y.f < z.f := by
  intro y hy
  obtain ⟨i, hi, rfl⟩ := List.getElem_of_mem hy
  have hi2 := hi
  rw [List.length_take] at hi2
  have hk := (List.getElem?_eq_some_iff.1 hz).1
  have e1 : xs[i]? = some (xs.take k)[i] := by rw [List.getElem_take]; exact List.getElem?_eq_getElem (by omega)
  have hlk : k < l.length := by rw [← h.1]; exact hk
  have f1 := (h.2 i _ _ e1 (List.getElem?_eq_getElem (by omega))).1
  have f2 := (h.2 k _ _ hz (List.getElem?_eq_getElem hlk)).1
  have := (List.pairwise_iff_getElem.1 hp i k (by omega) hlk (by omega)).1
  rw [f1, f2]
  exact this
theorem dn_rise {xs : List Rw} {k : Nat} {z r : Rw} (h : ∀ y ∈ xs.take k, y.f < z.f) (hd : dn (xs.take k) r = true) : r.f < z.f := by
  unfold dn at hd
  obtain ⟨y, hy, q⟩ := List.any_eq_true.1 hd
  have := h y hy
  have := of_decide_eq_true q
  omega
end Go.Proofs.Ythlpigffjbhmoaa
