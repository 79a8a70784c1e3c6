/- What RatesHold's walk needs: answers named. -/
import Derived.Test.YthlpigffjbhmoaaDoorVWithA
import Derived.Test.YthlpigffjbhmoaaDoorVSpans
set_option linter.unusedVariables false
set_option linter.unusedSimpArgs false
namespace Go.Proofs.YthlpigffjbhmoaaDoor
open Go.RowKit Go.Shelf
/-- What With answers, of any table and version: a table, and a number. -/
def wT (l : List Ve) (v : Ve) : List Ve := if WithMay l v then withL l v else []
def wG (l : List Ve) (v : Ve) : Int := if WithMay l v then 0 else 100
def WithO (l : List Ve) (v : Ve) (e : Ending) (w' : World) : Prop := ∃ a c, e = .returned (.tuple #[.slice a (wT l v).length c, .int .i64 (wG l v)]) ∧ VesAt w'.heap.size w' a (wT l v) ∧ (wT l v).length ≤ c ∧ c ≤ maxLen
theorem with_o {l : List Ve} {v : Ve} {e : Ending} {w' : World} (h : WithE l v e w') : WithO l v e w' := by
  unfold WithO
  rcases h with ⟨h, a, c, rfl, hv, h1, h2⟩ | ⟨h, rfl⟩
  · rw [show wT l v = withL l v from if_pos h, show wG l v = 0 from if_pos h]
    exact ⟨a, c, rfl, hv, h1, h2⟩
  · rw [show wT l v = [] from if_neg h, show wG l v = 100 from if_neg h]
    exact ⟨none, 0, rfl, VesAt.nil, Nat.le_refl _, Nat.zero_le _⟩
theorem withO_any (a : Option Addr) (n cap : Nat) (l : List Ve) (hn : l.length = n) (f : Int) (pa : Option Addr) (m pc : Nat) (ps : List Int) (hm : ps.length = m) (w : World) (hA : VesAt w.heap.size w a l) (hP : PrAt w.heap.size w pa ps) (hnx : n ≤ cap ∧ cap ≤ maxLen) (hmx : m ≤ pc ∧ pc ≤ maxLen) :
    Calls Tryd.prog 19 #[.slice a n cap, verV f pa m pc] w fun e w' => WithO l ⟨f, ps⟩ e w' ∧ Below w.heap.size w w' :=
  (withP_any a n cap l hn f pa m pc ps hm w hA hP hnx hmx).mono fun e w' h => ⟨with_o h.1, h.2⟩
/-- The instants of the first j versions that lie between. -/
def sp (l : List Ve) (t u : Int) (j : Nat) : List Int := ((l.take j).filter fun v => decide (t < v.f ∧ v.f < u)).map (·.f)
theorem sp_zero (l : List Ve) (t u : Int) : sp l t u 0 = [] := by simp [sp]
theorem sp_yes {l : List Ve} {t u : Int} {j : Nat} {v : Ve} (h : l[j]? = some v) (hu : t < v.f ∧ v.f < u) : sp l t u (j + 1) = sp l t u j ++ [v.f] := by
  unfold sp
  rw [List.take_add_one, h]
  simp [hu]
theorem sp_no {l : List Ve} {t u : Int} {j : Nat} {v : Ve} (h : l[j]? = some v) (hu : ¬ (t < v.f ∧ v.f < u)) : sp l t u (j + 1) = sp l t u j := by
  unfold sp
  rw [List.take_add_one, h]
  simp [hu]
theorem sp_all {l : List Ve} (h : TabMay l) (t u : Int) : sp l t u l.length = spansL l t u := by
  unfold sp spansL
  rw [if_pos h, List.take_of_length_le (Nat.le_refl _)]
theorem sp_get {l : List Ve} {t u : Int} {j : Nat} {v : Ve} (h : l[j]? = some v) (hu : t < v.f ∧ v.f < u) : (sp l t u l.length)[(sp l t u j).length]? = some v.f := by
  have hj := (List.getElem?_eq_some_iff.1 h).1
  have e : sp l t u l.length = sp l t u j ++ v.f :: ((l.drop (j + 1)).filter fun v => decide (t < v.f ∧ v.f < u)).map (·.f) := by
    have hl : l = l.take j ++ v :: l.drop (j + 1) := by
      have := List.take_append_drop j l
      rw [List.drop_eq_getElem_cons hj, (List.getElem?_eq_some_iff.1 h).2] at this
      exact this.symm
    unfold sp
    rw [List.take_of_length_le (Nat.le_refl _)]
    conv => lhs; rw [hl]
    rw [List.filter_append, List.filter_cons_of_pos (by simpa using hu), List.map_append]
    rfl
  rw [e, List.getElem?_append_right (Nat.le_refl _), Nat.sub_self]
  rfl
theorem sp_len (l : List Ve) (t u : Int) (j : Nat) : (sp l t u j).length ≤ j := by
  unfold sp
  rw [List.length_map]
  refine Nat.le_trans (List.length_filter_le _ _) ?_
  rw [List.length_take]; omega
end Go.Proofs.YthlpigffjbhmoaaDoor
