/- The statement DaysLists: its lemmas. -/
import Derived.Test.YtgedcfgmfhlkdaaDoorHNextsW
import Derived.Test.YtgedcfgmfhlkdaaDoorHRef4
import Derived.Test.YtgedcfgmfhlkdaaDoorHOneW
set_option linter.unusedVariables false
set_option linter.unusedSimpArgs false
namespace Go.Proofs.YtgedcfgmfhlkdaaDoor
open Go.RowKit Go.Shelf
theorem rIs_in (ha : Option Addr) (hl hc : Nat) (sa : Option Addr) (sl sc : Nat) (H : Nat → Ho) (x y : Int) (hy0 : 1970 ≤ y) (hy1 : y ≤ 9999) (h0 : ahead y ≤ x) (h1 : x < ahead (y + 1)) (hho : ∀ i, i < hl → HoIs (H i)) (w : World) (hH : HosAt w.heap.size w ha hl H) (hlm : hl ≤ 100) :
    Calls Tryd.prog 16 #[calV ha hl hc sa sl sc, .int .i64 x] w fun e w' => e = .returned (.bool (decide (x ∈ feastsE H y hl))) ∧ Below w.heap.size w w' := by
  have yd := year_days hy0 hy1
  obtain ⟨z, m, d, hd⟩ := date_exists x (by omega) (by omega)
  have a := in_year hd.1
  rw [← hd.2] at a
  have e : decide (x ∈ feastsE H y hl) = decide (x ∈ hds H z hl) := by
    rw [decide_eq_decide, mem_feasts]
    exact (feast_year (H := H) (hl := hl) hy0 hy1 h0 h1).symm.trans (feast_year (H := H) (hl := hl) hd.1.1 hd.1.2.1 a.1 a.2)
  rw [e]
  exact rIs_any ha hl hc sa sl sc H x z m d hd hho w hH hlm
theorem rKind_d (ha : Option Addr) (hl hc : Nat) (sa : Option Addr) (sl sc : Nat) (H : Nat → Ho) (x : Int) (hx0 : 0 ≤ x) (hx1 : x ≤ 2932896) (hho : ∀ i, i < hl → HoIs (H i)) (w : World) (hH : HosAt w.heap.size w ha hl H) (hlm : hl ≤ 100) :
    Calls Tryd.prog 17 #[calV ha hl hc sa sl sc, .int .i64 x] w fun e w' => e = .returned (.int .i64 (kindD H hl x)) ∧ Below w.heap.size w w' := by
  obtain ⟨y, m, d, hd⟩ := date_exists x hx0 hx1
  rw [kindD_is hd]
  exact rKind_any ha hl hc sa sl sc H x y m d hd hho w hH hlm
/-- So many of the list are passed before day n. -/
def Pass (E : List Int) (n : Int) (k : Nat) : Prop := k ≤ E.length ∧ (∀ j, j < k → E.getD j 0 < n) ∧ ∀ j, k ≤ j → j < E.length → n ≤ E.getD j 0
theorem getD_mem {E : List Int} {j : Nat} (h : j < E.length) : E.getD j 0 ∈ E := by
  rw [List.getD_eq_getElem?_getD, List.getElem?_eq_getElem h]; exact List.getElem_mem h
theorem mem_getD {E : List Int} {n : Int} (h : n ∈ E) : ∃ j, j < E.length ∧ E.getD j 0 = n := by
  obtain ⟨j, hj, e⟩ := List.getElem_of_mem h
  exact ⟨j, hj, by rw [List.getD_eq_getElem?_getD, List.getElem?_eq_getElem hj]; exact e⟩
theorem pair_getD {E : List Int} (hp : E.Pairwise (· < ·)) {i j : Nat} (h : i < j) (hj : j < E.length) : E.getD i 0 < E.getD j 0 := by
  have := List.pairwise_iff_getElem.1 hp i j (by omega) hj h
  rw [List.getD_eq_getElem?_getD, List.getElem?_eq_getElem (by omega : i < E.length), List.getD_eq_getElem?_getD, List.getElem?_eq_getElem hj]
  exact this
theorem Pass.start {E : List Int} {s : Int} (h : ∀ q ∈ E, s ≤ q) : Pass E s 0 := ⟨Nat.zero_le _, fun j hj => absurd hj (Nat.not_lt_zero _), fun j _ hj => h _ (getD_mem hj)⟩
theorem Pass.skip {E : List Int} {n : Int} {k : Nat} (h : Pass E n k) (hn : n ∉ E) : Pass E (n + 1) k := by
  refine ⟨h.1, fun j hj => by have := h.2.1 j hj; omega, fun j hj hl => ?_⟩
  have a := h.2.2 j hj hl
  have b : E.getD j 0 ≠ n := fun e => hn (e ▸ getD_mem hl)
  omega
theorem Pass.hit {E : List Int} {n : Int} {k : Nat} (hp : E.Pairwise (· < ·)) (h : Pass E n k) (hn : n ∈ E) : k < E.length ∧ E.getD k 0 = n ∧ Pass E (n + 1) (k + 1) := by
  obtain ⟨i, hi, e⟩ := mem_getD hn
  have hik : k ≤ i := by
    refine Nat.le_of_not_lt fun q => ?_
    have := h.2.1 i q
    omega
  have hk : k < E.length := by omega
  have hie : i = k := by
    refine Nat.le_antisymm (Nat.le_of_not_lt fun q => ?_) hik
    have a := pair_getD hp q hi
    have b := h.2.2 k (Nat.le_refl _) hk
    omega
  subst hie
  refine ⟨hk, e, by omega, fun j hj => ?_, fun j hj hl => ?_⟩
  · rcases Nat.lt_succ_iff_lt_or_eq.1 hj with q | q
    · have := h.2.1 j q; omega
    · rw [q, e]; omega
  · have := pair_getD hp (by omega : i < j) hl
    omega
theorem Pass.over {E : List Int} {n : Int} {k : Nat} (h : Pass E n k) (hn : ∀ q ∈ E, q < n) : k = E.length := by
  rcases Nat.lt_or_ge k E.length with q | q
  · have a := h.2.2 k (Nat.le_refl _) q
    have b := hn _ (getD_mem q)
    omega
  · exact Nat.le_antisymm h.1 q
theorem feasts_in {H : Nat → Ho} {y q : Int} {hl : Nat} (hy0 : 1970 ≤ y) (hy1 : y ≤ 9999) (h : q ∈ feastsE H y hl) : ahead y ≤ q ∧ q < ahead (y + 1) := hds_in hy0 hy1 (mem_feasts.1 h)
theorem NextIs.far {H : Nat → Ho} {hl : Nat} {x kd n i : Int} (h : NextIs H hl x kd n true) (hno : ∀ j, x ≤ j → j < i → kindD H hl j ≠ kd) (hi : x + 40 ≤ i ∨ 2932896 < i) : x + 40 ≤ n ∧ n ≤ x + 3700 ∧ n ≤ 2932896 ∧ kindD H hl n = kd := by
  rcases h with ⟨_, b, c, d, e, f⟩ | ⟨q, _⟩
  · have : i ≤ n := by
      refine Int.not_lt.1 fun q => hno n b q e
    exact ⟨by omega, c, d, e⟩
  · cases q
theorem NextIs.near {H : Nat → Ho} {hl : Nat} {x kd n i : Int} {is : Bool} (h : NextIs H hl x kd n is) (hx : x ≤ i) (hx1 : i < x + 40) (hx2 : i ≤ 2932896) (hk : kindD H hl i = kd) (hno : ∀ j, x ≤ j → j < i → kindD H hl j ≠ kd) : is = true ∧ n = i := by
  rcases h with ⟨a, b, c, d, e, f⟩ | ⟨_, _, f⟩
  · refine ⟨a, ?_⟩
    rcases Int.lt_trichotomy n i with q | q | q
    · exact absurd e (hno n b q)
    · exact q
    · exact absurd hk (f i hx q)
  · exact absurd hk (f i hx (by omega) hx2)
theorem NextIs.none_it {H : Nat → Ho} {hl : Nat} {x kd n : Int} (h : NextIs H hl x kd n false) : n = 0 := by
  rcases h with ⟨a, _⟩ | ⟨_, e, _⟩
  · cases a
  · exact e
theorem day_11 {y : Int} (h0 : 1970 ≤ y) (h1 : y ≤ 9999) : dayE y 1 1 = ahead y ∧ mayE y 1 1 = 0 := by
  unfold dayE mayE; rw [if_pos (may_11 h0 h1).1, if_pos (may_11 h0 h1).1]; exact ⟨(may_11 h0 h1).2, rfl⟩
theorem day_1231 {y : Int} (h0 : 1970 ≤ y) (h1 : y ≤ 9999) : dayE y 12 31 = ahead (y + 1) - 1 ∧ mayE y 12 31 = 0 := by
  unfold dayE mayE; rw [if_pos (may_1231 h0 h1).1, if_pos (may_1231 h0 h1).1]; exact ⟨(may_1231 h0 h1).2, rfl⟩
end Go.Proofs.YtgedcfgmfhlkdaaDoor
