/- What RatesBack's walk needs. -/
import Derived.Test.YthlpigffjbhmoaaDoorEPars
import Derived.Test.YthlpigffjbhmoaaDoorEFew
import Derived.Test.YthlpigffjbhmoaaDoorEMath
import Derived.Test.YthlpigffjbhmoaaDoorVHoldM
import Derived.Test.YthlpigffjbhmoaaDoorVRefS
import Derived.Test.YthlpigffjbhmoaaDoorVRef1
set_option linter.unusedVariables false
set_option linter.unusedSimpArgs false
namespace Go.Proofs.YthlpigffjbhmoaaDoor
open Go.RowKit Go.Shelf
/-- Is u the From of one of these? -/
def edg (l : List Ve) (u : Int) (k : Nat) : Bool := (l.take k).any fun v => v.f == u
theorem edg_zero (l : List Ve) (u : Int) : edg l u 0 = false := by simp [edg]
theorem edg_succ {l : List Ve} {u : Int} {k : Nat} {v : Ve} (h : l[k]? = some v) : edg l u (k + 1) = (edg l u k || (v.f == u)) := by
  unfold edg
  rw [List.take_add_one, h]
  simp
/-- Between two instants where no version begins a price stays. -/
theorem stays {l : List Ve} {t u : Int} (htu : t ≤ u) (h0 : (spansL l t u).length = 0) (he : edg l u l.length = false) (band : Int) : priceO l t band = priceO l u band := by
  by_cases ht : TabMay l
  · have hs : ∀ z ∈ l, ¬ (t < z.f ∧ z.f ≤ u) := by
      intro z hz ⟨h1, h2⟩
      by_cases q : z.f = u
      · have : edg l u l.length = true := by
          unfold edg
          rw [List.take_of_length_le (Nat.le_refl _), List.any_eq_true]
          exact ⟨z, hz, by simp [q]⟩
        rw [he] at this
        cases this
      · have hm : z.f ∈ spansL l t u := by
          unfold spansL
          rw [if_pos ht]
          exact List.mem_map.2 ⟨z, List.mem_filter.2 ⟨hz, by simp; omega⟩, rfl⟩
        rw [List.eq_nil_of_length_eq_zero h0] at hm
        cases hm
    have hv : verO l t = verO l u := by
      rcases ver_is ht u with ⟨y, e, hy, hyu, hmax⟩ | ⟨e, hn⟩
      · rw [e]
        have h1 := hs y hy
        exact ver_some_of ht hy (by omega) (fun z hz hzt => hmax z hz (by omega))
      · rw [e]
        exact ver_none_of ht (fun z hz => by have := hn z hz; omega)
    unfold priceO
    rw [hv]
  · rw [price_none (show verO l t = none from if_neg (fun q => ht q.1)), price_none (show verO l u = none from if_neg (fun q => ht q.1))]
theorem parse_back {l : List Ve} (h : TabMay l) {r : List Ve} {n e : Int} (hp : ParseIs (textL l) r n e) : r = l ∧ n = 0 ∧ e = 0 := hp.unique (parse_text h)
theorem parse_empty {r : List Ve} {n e : Int} (hp : ParseIs [] r n e) : r = [] ∧ n = 0 ∧ e = 0 := hp.unique (parse_text tab_nil)
theorem text_len_ok {l : List Ve} (h : TabMay l) : (textL l).length ≤ 1000000 := by
  have := text_len l (fun v hv => tab_ver h hv)
  have := tab_len h
  omega
end Go.Proofs.YthlpigffjbhmoaaDoor
