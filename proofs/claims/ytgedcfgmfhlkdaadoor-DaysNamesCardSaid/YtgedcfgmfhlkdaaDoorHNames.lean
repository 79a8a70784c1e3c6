/- The statement DaysNames, its lemmas. -/
import Derived.Test.YtgedcfgmfhlkdaaDoorHNext
import Derived.Test.YtgedcfgmfhlkdaaDoorHAlive
set_option linter.unusedVariables false
set_option linter.unusedSimpArgs false
namespace Go.Proofs.YtgedcfgmfhlkdaaDoor
open Go.RowKit Go.Shelf
def twoS (s t : Se) : Nat → Se
  | 0 => s
  | _ => t
def noHo : Nat → Ho := fun _ => ⟨0, 0, 0, 0, 0, 0⟩
def noSe : Nat → Se := fun _ => ⟨0, 0, 0⟩
theorem check_ho (h : Ho) (c : Int) (hc : calE (fun _ => h) 1 noSe 0 = c) (W : World) (hT : Tabs W) :
    Calls Tryd.prog 11 #[calV (some ⟨W.heap.size, 0, none⟩) 1 1 none 0 0] (W.alloc (.cells #[.int .i64 h.k, .int .i64 h.y, .int .i64 h.m, .int .i64 h.d, .int .i64 h.w, .int .i64 h.n] 50)) fun e w' => e = .returned (.int .i64 c) ∧ Below W.heap.size W w' := by
  have hb := (Below.refl _ W).alloc (Nat.le_refl _) (.cells #[.int .i64 h.k, .int .i64 h.y, .int .i64 h.m, .int .i64 h.d, .int .i64 h.w, .int .i64 h.n] 50)
  have hr := heap_alloc_new W (.cells #[.int .i64 h.k, .int .i64 h.y, .int .i64 h.m, .int .i64 h.d, .int .i64 h.w, .int .i64 h.n] 50)
  rw [← hc]
  refine (checkD_any _ 1 1 none 0 0 (fun _ => h) noSe _ ?_ ?_ (hT.next hb) (by unfold maxLen; omega) (by unfold maxLen; omega)).mono ?_
  · intro i hi
    obtain rfl : i = 0 := by omega
    exact ⟨W.heap.size, 0, rfl, by rw [World.size_alloc]; omega, cell_of_row _ _ 0 _ _ _ hr, cell_of_row _ _ 1 _ _ _ hr, cell_of_row _ _ 2 _ _ _ hr, cell_of_row _ _ 3 _ _ _ hr, cell_of_row _ _ 4 _ _ _ hr, cell_of_row _ _ 5 _ _ _ hr⟩
  · intro i hi; exact absurd hi (Nat.not_lt_zero _)
  · rintro e w' ⟨rfl, hB⟩
    exact ⟨rfl, hb.trans (hB.mono hb.size)⟩
theorem check_se (s : Se) (c : Int) (hc : calE noHo 0 (fun _ => s) 1 = c) (W : World) (hT : Tabs W) :
    Calls Tryd.prog 11 #[calV none 0 0 (some ⟨W.heap.size, 0, none⟩) 1 1] (W.alloc (.cells #[.int .i64 s.n, .int .i64 s.m, .int .i64 s.d] 52)) fun e w' => e = .returned (.int .i64 c) ∧ Below W.heap.size W w' := by
  have hb := (Below.refl _ W).alloc (Nat.le_refl _) (.cells #[.int .i64 s.n, .int .i64 s.m, .int .i64 s.d] 52)
  have hr := heap_alloc_new W (.cells #[.int .i64 s.n, .int .i64 s.m, .int .i64 s.d] 52)
  rw [← hc]
  refine (checkD_any none 0 0 _ 1 1 noHo (fun _ => s) _ ?_ ?_ (hT.next hb) (by unfold maxLen; omega) (by unfold maxLen; omega)).mono ?_
  · intro i hi; exact absurd hi (Nat.not_lt_zero _)
  · intro i hi
    obtain rfl : i = 0 := by omega
    exact ⟨W.heap.size, 0, rfl, by rw [World.size_alloc]; omega, cell_of_row _ _ 0 _ _ _ hr, cell_of_row _ _ 1 _ _ _ hr, cell_of_row _ _ 2 _ _ _ hr⟩
  · rintro e w' ⟨rfl, hB⟩
    exact ⟨rfl, hb.trans (hB.mono hb.size)⟩
theorem check_se2 (s t : Se) (c : Int) (hc : calE noHo 0 (twoS s t) 2 = c) (W : World) (hT : Tabs W) :
    Calls Tryd.prog 11 #[calV none 0 0 (some ⟨W.heap.size, 0, none⟩) 2 2] (W.alloc (.cells #[.int .i64 s.n, .int .i64 s.m, .int .i64 s.d, .int .i64 t.n, .int .i64 t.m, .int .i64 t.d] 52)) fun e w' => e = .returned (.int .i64 c) ∧ Below W.heap.size W w' := by
  have hb := (Below.refl _ W).alloc (Nat.le_refl _) (.cells #[.int .i64 s.n, .int .i64 s.m, .int .i64 s.d, .int .i64 t.n, .int .i64 t.m, .int .i64 t.d] 52)
  have hr := heap_alloc_new W (.cells #[.int .i64 s.n, .int .i64 s.m, .int .i64 s.d, .int .i64 t.n, .int .i64 t.m, .int .i64 t.d] 52)
  rw [← hc]
  refine (checkD_any none 0 0 _ 2 2 noHo (twoS s t) _ ?_ ?_ (hT.next hb) (by unfold maxLen; omega) (by unfold maxLen; omega)).mono ?_
  · intro i hi; exact absurd hi (Nat.not_lt_zero _)
  · intro i hi
    rcases (by omega : i = 0 ∨ i = 1) with rfl | rfl
    · exact ⟨W.heap.size, 0, rfl, by rw [World.size_alloc]; omega, cell_of_row _ _ 0 _ _ _ hr, cell_of_row _ _ 1 _ _ _ hr, cell_of_row _ _ 2 _ _ _ hr⟩
    · exact ⟨W.heap.size, 0, rfl, by rw [World.size_alloc]; omega, cell_of_row _ _ 3 _ _ _ hr, cell_of_row _ _ 4 _ _ _ hr, cell_of_row _ _ 5 _ _ _ hr⟩
  · rintro e w' ⟨rfl, hB⟩
    exact ⟨rfl, hb.trans (hB.mono hb.size)⟩
theorem n_c1 : calE (fun _ => (⟨0, 0, 0, 0, 0, 0⟩ : Ho)) 1 noSe 0 = 80 := by decide +kernel
theorem n_c2 : calE (fun _ => (⟨1, 0, 2, 30, 0, 0⟩ : Ho)) 1 noSe 0 = 80 := by decide +kernel
theorem n_c3 : calE (fun _ => (⟨1, 0, 2, 29, 0, 0⟩ : Ho)) 1 noSe 0 = 0 := by decide +kernel
theorem n_c4 : calE noHo 0 (fun _ => (⟨1, 2, 29⟩ : Se)) 1 = 80 := by decide +kernel
theorem n_c5 : calE noHo 0 (twoS ⟨1, 2, 2⟩ ⟨2, 2, 2⟩) 2 = 80 := by decide +kernel
theorem n_k1 : kindB 20598 (decide (20598 ∈ hds fewH 2026 3)) = 4 := by decide +kernel
theorem n_k2 : kindB 20597 (decide (20597 ∈ hds fewH 2026 3)) = 3 := by decide +kernel
theorem n_d1 : IsDate 20598 2026 5 25 := by decide +kernel
theorem n_d2 : IsDate 20597 2026 5 24 := by decide +kernel
theorem n_d3 : IsDate 20543 2026 3 31 := by decide +kernel
theorem n_d4 : IsDate 20544 2026 4 1 := by decide +kernel
theorem n_d5 : IsDate 20727 2026 10 1 := by decide +kernel
theorem n_s1 : SeaIs fewS 2 (bgn 3 31) 2 := .inr ⟨1, by decide, rfl, .inr ⟨by decide +kernel, by decide +kernel⟩⟩
theorem n_s2 : SeaIs fewS 2 (bgn 4 1) 1 := .inr ⟨0, by decide, rfl, .inl ⟨by decide +kernel, by decide +kernel⟩⟩
theorem n_s3 : SeaIs fewS 2 (bgn 10 1) 2 := .inr ⟨1, by decide, rfl, .inl ⟨by decide +kernel, by decide +kernel⟩⟩
theorem seasonF_d (n y m d r : Int) (hd : IsDate n y m d) (hr : SeaIs fewS 2 (bgn m d) r) (w : World) (hT : Tabs w) :
    Calls Tryd.prog 28 #[.int .i64 y, .int .i64 m, .int .i64 d] w fun e w' => e = .returned (.int .i64 r) ∧ Below w.heap.size w w' := by
  refine (seasonF_any n y m d hd w hT).mono ?_
  rintro e w' ⟨⟨q, hq, rfl⟩, hB⟩
  rw [few_cal.2.2.2.2 |> fun ha => SeaIs.unique few_cal.2.2.2.1 ha hq hr]
  exact ⟨rfl, hB⟩
theorem kindB_range (x : Int) (f : Bool) : 1 ≤ kindB x f ∧ kindB x f ≤ 4 := by
  unfold kindB kindW
  cases f
  · simp only [Bool.false_eq_true, if_false]; split
    · omega
    · split <;> omega
  · simp
theorem next_nine (ha : Option Addr) (hl hc : Nat) (sa : Option Addr) (sl sc : Nat) (H : Nat → Ho) (S : Nat → Se) (hcal : CalIs H hl S sl) (w : World) (hH : HosAt w.heap.size w ha hl H) (hS : SeasAt w.heap.size w sa sl S) (hT : Tabs w) (hlm : hl ≤ maxLen) (slm : sl ≤ maxLen) :
    Calls Tryd.prog 23 #[calV ha hl hc sa sl sc, .int .i64 0, .int .i64 9] w fun e w' => e = .returned (.tuple #[.int .i64 0, .bool false]) ∧ Below w.heap.size w w' := by
  obtain ⟨y, m, d, hd⟩ := date_exists 0 (by omega) (by omega)
  refine (next_yes ha hl hc sa sl sc H S 0 9 hcal y m d hd w hH hS hT hlm slm).mono ?_
  rintro e w' ⟨⟨n, is, h, rfl⟩, hB⟩
  rcases h with ⟨_, _, _, _, k, _⟩ | ⟨rfl, rfl, _⟩
  · have := kindB_range n (@decide (FeastOn H hl n) (Classical.propDecidable _))
    unfold kindD at k
    omega
  · exact ⟨rfl, hB⟩
end Go.Proofs.YtgedcfgmfhlkdaaDoor
