/- The contracts of listIn and List. -/
import Derived.Test.YtgedcfgmfhlkdaaDoorHSeq
set_option linter.unusedVariables false
set_option linter.unusedSimpArgs false
namespace Go.Proofs.YtgedcfgmfhlkdaaDoor
open Go.RowKit Go.Shelf
/-- A list that the call made, as it is read. -/
def ListAt (n₀ : Nat) (W : World) (v : Value) (E : List Int) : Prop :=
  (E = [] ∧ ∃ a c, v = .slice a 0 c) ∨ ∃ g c, v = .slice (some ⟨g, 0, none⟩) E.length c ∧ n₀ ≤ g ∧ g < W.heap.size ∧ 0 < E.length ∧ ∀ j, j < E.length → W.cell? ⟨g, j, none⟩ = some (.int .i64 (E.getD j 0))
theorem ListAt.form {n₀ : Nat} {W : World} {v : Value} {E : List Int} (h : ListAt n₀ W v E) : ∃ a c, v = .slice a E.length c := by
  rcases h with ⟨rfl, a, c, rfl⟩ | ⟨g, c, rfl, _⟩
  · exact ⟨a, c, rfl⟩
  · exact ⟨_, c, rfl⟩
theorem ListAt.next {n₀ n : Nat} {W X : World} {v : Value} {E : List Int} (h : ListAt n₀ W v E) (hB : Below n W X) (hn : W.heap.size ≤ n) : ListAt n₀ X v E := by
  rcases h with h | ⟨g, c, e, h1, h2, h3, h4⟩
  · exact .inl h
  · exact .inr ⟨g, c, e, h1, Nat.lt_of_lt_of_le h2 hB.size, h3, fun j hj => (hB.cell (p := ⟨g, j, none⟩) (by show g < n; omega)).trans (h4 j hj)⟩
theorem ListAt.mono {n₀ n₁ : Nat} {W : World} {v : Value} {E : List Int} (h : ListAt n₀ W v E) (hn : n₁ ≤ n₀) : ListAt n₁ W v E := by
  rcases h with h | ⟨g, c, e, h1, h2⟩
  · exact .inl h
  · exact .inr ⟨g, c, e, by omega, h2⟩
set_option maxRecDepth 100000 in
set_option maxHeartbeats 4000000 in
theorem listIn_any (ha : Option Addr) (hl hc : Nat) (sa : Option Addr) (sl sc : Nat) (H : Nat → Ho) (y : Int) (hlm : hl ≤ 100) (hho : ∀ i, i < hl → HoIs (H i)) (hy0 : 1970 ≤ y) (hy1 : y ≤ 9999) (w : World) (hH : HosAt w.heap.size w ha hl H) (hT : Tabs w) :
    Calls Tryd.prog 46 #[calV ha hl hc sa sl sc, .int .i64 y] w fun e w' => (∃ v, e = .returned v ∧ ListAt w.heap.size w' v (feastsE H y hl)) ∧ Below w.heap.size w w' := by
  have hb0 := (Below.refl _ w).alloc (Nat.le_refl _) (.cells #[.slice ha hl hc, .slice sa sl sc] 25)
  have hs0 : (w.alloc (.cells #[.slice ha hl hc, .slice sa sl sc] 25)).heap.size = w.heap.size + 1 := World.size_alloc _ _
  obtain ⟨X, hX⟩ : ∃ X, X = w.alloc (.cells #[.slice ha hl hc, .slice sa sl sc] 25) := ⟨_, rfl⟩
  rw [← hX] at hb0 hs0
  have hC2 : ((X.alloc (.cells #[.slice ha hl hc, .slice sa sl sc] 25)).alloc (.cells #[.int .i64 y] 3)).heap[X.heap.size]? = some (.cells #[.slice ha hl hc, .slice sa sl sc] 25) := heap_old (heap_alloc_new X _) _
  have hY2 : ((X.alloc (.cells #[.slice ha hl hc, .slice sa sl sc] 25)).alloc (.cells #[.int .i64 y] 3)).heap[X.heap.size + 1]? = some (.cells #[.int .i64 y] 3) := by have := heap_alloc_new (X.alloc (.cells #[.slice ha hl hc, .slice sa sl sc] 25)) (.cells #[.int .i64 y] 3); rw [World.size_alloc] at this; exact this
  have hs2 : ((X.alloc (.cells #[.slice ha hl hc, .slice sa sl sc] 25)).alloc (.cells #[.int .i64 y] 3)).heap.size = X.heap.size + 2 := by simp [World.size_alloc]
  have hb2 : Below w.heap.size w ((X.alloc (.cells #[.slice ha hl hc, .slice sa sl sc] 25)).alloc (.cells #[.int .i64 y] 3)) := (hb0.alloc hb0.size _).alloc (by have := hb0.size; simp; omega) _
  have HIN := Lib.hid (holidaysIn_in 4 ha hl hc sa sl sc y X)
  obtain ⟨X2, hX2⟩ : ∃ X2, X2 = (X.alloc (.cells #[.slice ha hl hc, .slice sa sl sc] 25)).alloc (.cells #[.int .i64 y] 3) := ⟨_, rfl⟩
  rw [← hX2] at hC2 hY2 hs2 hb2
  have HSO := Lib.hid (sorted_any X.heap.size (X.heap.size + 1) ha hl hc sa sl sc H y hlm hho hy0 hy1 X2 (by omega) (by omega) hC2 hY2 ((hH.next hb2 (Nat.le_refl _) (Nat.le_refl _)).mono hb2.size) (hT.next hb2))
  have HB2 := Lib.hid hb2
  have HX := Lib.hid hX
  have HX2 := Lib.hid hX2
  have hcl := compact_le (srt (hds H y hl))
  have hsl := srt_len (hds H y hl)
  have hle := hds_len H y hl
  have hfe : Lib.compact (srt (hds H y hl)) = feastsE H y hl := rfl
  have hcm : srt (hds H y hl) = [] → feastsE H y hl = [] := fun h => by unfold feastsE cmp; rw [h]; rfl
  have hbd : ∀ q ∈ feastsE H y hl, -9223372036854775808 ≤ q ∧ q < 9223372036854775808 := fun q hq => by
    have a := hds_in hy0 hy1 (mem_feasts.1 hq)
    have b := year_days hy0 hy1
    omega
  obtain ⟨ts, hts⟩ : ∃ ts, ts = srt (hds H y hl) := ⟨_, rfl⟩
  obtain ⟨E, hE⟩ : ∃ E, E = feastsE H y hl := ⟨_, rfl⟩
  rw [← hts] at HSO hcl hsl hfe hcm
  rw [← hE] at hfe hcm hbd ⊢
  rw [hfe] at hcl
  have htl : ts.length ≤ 200 := by omega
  have HFE := Lib.hid hfe
  have HCM := Lib.hid hcm
  have HBD := Lib.hid hbd
  clear hH hT hb0 hs0 hX hX2 hC2 hY2 hs2 hb2 hts hE hfe hcm hbd hsl hle
  go_enter Tryd.func46, Tryd.ntmps46
  go_wp2_with fail
  rw [← HX.out]
  refine (callsIn_wide.1 HIN.out).mono ?_
  rintro e w1 ⟨rfl, rfl⟩
  rw [← HX2.out]
  go_wp2_with fail
  refine HSO.out.mono ?_
  rintro e w2 ⟨⟨v, rfl, hO⟩, hB⟩
  have hb3 := HB2.out.trans (hB.mono HB2.out.size)
  by_cases h0 : ts.length = 0
  · have hz : ts = [] := List.eq_nil_of_length_eq_zero h0
    obtain ⟨a', c', rfl⟩ := hO.form
    rw [h0]
    have HB3 := Lib.hid hb3
    have HS := Lib.hid (slices_Compact_int_empty a' c' w2)
    have HT0 := Lib.hid (HCM.out hz)
    clear hO hB hb3
    go_wp2_with (go_at_call 61; refine HS.out.mono ?_; rintro e w3 ⟨rfl, rfl⟩)
    go_ret
    exact ⟨⟨_, rfl, .inl ⟨HT0.out, _, _, rfl⟩⟩, HB3.out⟩
  · obtain ⟨a', c', rfl⟩ := hO.form
    obtain ⟨g, rfl, hg, hgl⟩ := hO.at_ (by omega)
    obtain ⟨_, g', cur, e, _, hcell, hnc, hcm2, hcs, hcv⟩ := hO.open (by omega)
    cases e
    have hH4 := holds_cells hcell hcv
    have hcc := slices_Compact_int g 0 c' ts w2 hH4 (by omega) (by omega)
    rw [HFE.out] at hcc
    have hbp := fun q => behind_put (n := q) (ts := E ++ List.replicate (ts.length - E.length) 0) (show (E ++ List.replicate (ts.length - E.length) 0).length = ts.length by rw [List.length_append, List.length_replicate]; omega) (fun q hq => by
      rcases List.mem_append.1 hq with h | h
      · exact HBD.out q h
      · have := (List.mem_replicate.1 h).2; omega) hO (by omega) hB.size
    have HC := Lib.hid hcc
    have HBP := Lib.hid hbp
    have HB3 := Lib.hid hb3
    have HBW := Lib.hid hB
    have hsz2 : X2.heap.size ≤ w2.heap.size := hB.size
    have hsz3 : w.heap.size ≤ X2.heap.size := HB2.out.size
    clear hcc hbp hb3 hB hO hcell hcv hH4 hcs
    go_wp2_with fail
    refine HC.out.mono ?_
    rintro e w3 ⟨rfl, hX5⟩
    obtain ⟨q5, hw5⟩ := hX5
    obtain ⟨hO5, hB5⟩ := HBP.out q5
    rw [← hw5] at hO5 hB5
    clear hw5 HBP HC
    have hcl5 := OwnN.cells hO5 (by omega)
    have hg5 : g < w3.heap.size := Nat.lt_of_lt_of_le hgl hB5.size
    have hres : ListAt w.heap.size w3 (.slice (some ⟨g, 0, none⟩) E.length c') E := by
      by_cases he : E.length = 0
      · exact .inl ⟨List.eq_nil_of_length_eq_zero he, _, _, by rw [he]⟩
      · refine .inr ⟨g, c', rfl, by omega, hg5, by omega, fun j hj => ?_⟩
        rw [hcl5 j (by simp; omega)]
        simp [List.getD, List.getElem?_append_left hj]
    have HR := Lib.hid hres
    have HB6 := Lib.hid (HB3.out.trans (hB5.mono hsz3))
    clear hO5 hB5 hcl5 hres HBW HB3
    go_wp2
    go_ret
    exact ⟨⟨_, rfl, HR.out⟩, HB6.out⟩
set_option maxRecDepth 100000 in
set_option maxHeartbeats 2000000 in
theorem list_bad (ha : Option Addr) (hl hc : Nat) (sa : Option Addr) (sl sc : Nat) (H : Nat → Ho) (S : Nat → Se) (y : Int) (hcal : ¬ CalIs H hl S sl) (w : World) (hH : HosAt w.heap.size w ha hl H) (hS : SeasAt w.heap.size w sa sl S) (hT : Tabs w) (hlm : hl ≤ maxLen) (slm : sl ≤ maxLen) :
    Calls Tryd.prog 19 #[calV ha hl hc sa sl sc, .int .i64 y] w fun e w' => e = .returned (.tuple #[.slice none 0 0, .int .i64 80]) ∧ Below w.heap.size w w' := by
  have hb0 := (Below.refl _ w).alloc (Nat.le_refl _) (.cells #[.slice ha hl hc, .slice sa sl sc] 25)
  have hzc := heap_alloc_new w (.cells #[.slice ha hl hc, .slice sa sl sc] 25)
  have hs0 : (w.alloc (.cells #[.slice ha hl hc, .slice sa sl sc] 25)).heap.size = w.heap.size + 1 := World.size_alloc _ _
  obtain ⟨X, hX⟩ : ∃ X, X = w.alloc (.cells #[.slice ha hl hc, .slice sa sl sc] 25) := ⟨_, rfl⟩
  rw [← hX] at hb0 hzc hs0
  have hck := checkD_any ha hl hc sa sl sc H S X ((hH.next hb0 (Nat.le_refl _) (Nat.le_refl _)).mono hb0.size) ((hS.next hb0 (Nat.le_refl _) (Nat.le_refl _)).mono hb0.size) (hT.next hb0) hlm slm
  rw [calE_no hcal] at hck
  have HCK := Lib.hid hck
  have HB0 := Lib.hid hb0
  have HZC := Lib.hid hzc
  have HX := Lib.hid hX
  have HS0 := Lib.hid hs0
  have HH := Lib.hid hH
  have HT := Lib.hid hT
  clear hcal hck hb0 hzc hX hs0 hH hS hT hlm slm
  go_enter Tryd.func19, Tryd.ntmps19
  go_wp2_with fail
  rw [← HX.out]
  refine HCK.out.mono ?_
  rintro e w1 ⟨rfl, hB1⟩
  have z1 := (hB1.block w.heap.size (by rw [HS0.out]; omega)).trans HZC.out
  have c0 : w1.cell? ⟨w.heap.size, 0, none⟩ = some (.slice ha hl hc) := cell_of_row _ _ 0 _ _ _ z1
  have c1 : w1.cell? ⟨w.heap.size, 1, none⟩ = some (.slice sa sl sc) := cell_of_row _ _ 1 _ _ _ z1
  have HB1 := Lib.hid (HB0.out.trans (hB1.mono HB0.out.size))
  clear hB1 z1
  go_wp2
  go_ret2
  exact ⟨rfl, HB1.out⟩
set_option maxRecDepth 100000 in
set_option maxHeartbeats 2000000 in
theorem list_no (ha : Option Addr) (hl hc : Nat) (sa : Option Addr) (sl sc : Nat) (H : Nat → Ho) (S : Nat → Se) (y : Int) (hcal : CalIs H hl S sl) (hy : ¬ (1970 ≤ y ∧ y ≤ 9999)) (w : World) (hH : HosAt w.heap.size w ha hl H) (hS : SeasAt w.heap.size w sa sl S) (hT : Tabs w) (hlm : hl ≤ maxLen) (slm : sl ≤ maxLen) :
    Calls Tryd.prog 19 #[calV ha hl hc sa sl sc, .int .i64 y] w fun e w' => e = .returned (.tuple #[.slice none 0 0, .int .i64 60]) ∧ Below w.heap.size w w' := by
  have hb0 := (Below.refl _ w).alloc (Nat.le_refl _) (.cells #[.slice ha hl hc, .slice sa sl sc] 25)
  have hzc := heap_alloc_new w (.cells #[.slice ha hl hc, .slice sa sl sc] 25)
  have hs0 : (w.alloc (.cells #[.slice ha hl hc, .slice sa sl sc] 25)).heap.size = w.heap.size + 1 := World.size_alloc _ _
  obtain ⟨X, hX⟩ : ∃ X, X = w.alloc (.cells #[.slice ha hl hc, .slice sa sl sc] 25) := ⟨_, rfl⟩
  rw [← hX] at hb0 hzc hs0
  have hck := checkD_any ha hl hc sa sl sc H S X ((hH.next hb0 (Nat.le_refl _) (Nat.le_refl _)).mono hb0.size) ((hS.next hb0 (Nat.le_refl _) (Nat.le_refl _)).mono hb0.size) (hT.next hb0) hlm slm
  rw [calE_yes hcal] at hck
  have HCK := Lib.hid hck
  have HB0 := Lib.hid hb0
  have HZC := Lib.hid hzc
  have HX := Lib.hid hX
  have HS0 := Lib.hid hs0
  have HH := Lib.hid hH
  have HT := Lib.hid hT
  have hyd : ∀ W, Calls Tryd.prog 45 #[.int .i64 y] W fun e w' => e = .returned (.bool false) ∧ W = w' := fun W => by have := isYear_any y W; rw [decide_eq_false hy] at this; exact this
  have HY := Lib.hid hyd
  clear hcal hy hyd hck hb0 hzc hX hs0 hH hS hT hlm slm
  go_enter Tryd.func19, Tryd.ntmps19
  go_wp2_with fail
  rw [← HX.out]
  refine HCK.out.mono ?_
  rintro e w1 ⟨rfl, hB1⟩
  have z1 := (hB1.block w.heap.size (by rw [HS0.out]; omega)).trans HZC.out
  have c0 : w1.cell? ⟨w.heap.size, 0, none⟩ = some (.slice ha hl hc) := cell_of_row _ _ 0 _ _ _ z1
  have c1 : w1.cell? ⟨w.heap.size, 1, none⟩ = some (.slice sa sl sc) := cell_of_row _ _ 1 _ _ _ z1
  have HB1 := Lib.hid (HB0.out.trans (hB1.mono HB0.out.size))
  clear hB1 z1
  go_wp2_with (go_at_call 45; refine (HY.out _).mono ?_; rintro e w2 ⟨rfl, rfl⟩)
  go_ret2
  exact ⟨rfl, HB1.out⟩
set_option maxRecDepth 100000 in
set_option maxHeartbeats 2000000 in
theorem list_yes (ha : Option Addr) (hl hc : Nat) (sa : Option Addr) (sl sc : Nat) (H : Nat → Ho) (S : Nat → Se) (y : Int) (hcal : CalIs H hl S sl) (hy : 1970 ≤ y ∧ y ≤ 9999) (w : World) (hH : HosAt w.heap.size w ha hl H) (hS : SeasAt w.heap.size w sa sl S) (hT : Tabs w) (hlm : hl ≤ maxLen) (slm : sl ≤ maxLen) :
    Calls Tryd.prog 19 #[calV ha hl hc sa sl sc, .int .i64 y] w fun e w' => (∃ v, e = .returned (.tuple #[v, .int .i64 0]) ∧ ListAt w.heap.size w' v (feastsE H y hl)) ∧ Below w.heap.size w w' := by
  have hb0 := (Below.refl _ w).alloc (Nat.le_refl _) (.cells #[.slice ha hl hc, .slice sa sl sc] 25)
  have hzc := heap_alloc_new w (.cells #[.slice ha hl hc, .slice sa sl sc] 25)
  have hs0 : (w.alloc (.cells #[.slice ha hl hc, .slice sa sl sc] 25)).heap.size = w.heap.size + 1 := World.size_alloc _ _
  obtain ⟨X, hX⟩ : ∃ X, X = w.alloc (.cells #[.slice ha hl hc, .slice sa sl sc] 25) := ⟨_, rfl⟩
  rw [← hX] at hb0 hzc hs0
  have hck := checkD_any ha hl hc sa sl sc H S X ((hH.next hb0 (Nat.le_refl _) (Nat.le_refl _)).mono hb0.size) ((hS.next hb0 (Nat.le_refl _) (Nat.le_refl _)).mono hb0.size) (hT.next hb0) hlm slm
  rw [calE_yes hcal] at hck
  have HCK := Lib.hid hck
  have HB0 := Lib.hid hb0
  have HZC := Lib.hid hzc
  have HX := Lib.hid hX
  have HS0 := Lib.hid hs0
  have HH := Lib.hid hH
  have HT := Lib.hid hT
  have hyd : ∀ W, Calls Tryd.prog 45 #[.int .i64 y] W fun e w' => e = .returned (.bool true) ∧ W = w' := fun W => by have := isYear_any y W; rw [decide_eq_true hy] at this; exact this
  have HY := Lib.hid hyd
  have HCAL := Lib.hid hcal
  have HYY := Lib.hid hy
  clear hcal hy hyd hck hb0 hzc hX hs0 hH hS hT hlm slm
  go_enter Tryd.func19, Tryd.ntmps19
  go_wp2_with fail
  rw [← HX.out]
  refine HCK.out.mono ?_
  rintro e w1 ⟨rfl, hB1⟩
  have z1 := (hB1.block w.heap.size (by rw [HS0.out]; omega)).trans HZC.out
  have c0 : w1.cell? ⟨w.heap.size, 0, none⟩ = some (.slice ha hl hc) := cell_of_row _ _ 0 _ _ _ z1
  have c1 : w1.cell? ⟨w.heap.size, 1, none⟩ = some (.slice sa sl sc) := cell_of_row _ _ 1 _ _ _ z1
  have HB1 := Lib.hid (HB0.out.trans (hB1.mono HB0.out.size))
  clear hB1 z1
  have HLI := Lib.hid (listIn_any ha hl hc sa sl sc H y HCAL.out.1 HCAL.out.2.2.1 HYY.out.1 HYY.out.2 w1 ((HH.out.next HB1.out (Nat.le_refl _) (Nat.le_refl _)).mono HB1.out.size) (HT.out.next HB1.out))
  go_wp2_with (first
    | (go_at_call 45; refine (HY.out _).mono ?_; rintro e w2 ⟨rfl, rfl⟩)
    | (go_at_call 46; refine HLI.out.mono ?_; rintro e w3 ⟨⟨v, rfl, hL⟩, hB3⟩; have HL := Lib.hid hL; have HB3 := Lib.hid hB3; clear hL hB3))
  go_ret2
  exact ⟨⟨v, rfl, HL.out.mono HB1.out.size⟩, HB1.out.trans (HB3.out.mono HB1.out.size)⟩
end Go.Proofs.YtgedcfgmfhlkdaaDoor
