/- The contracts of days.Kind and days.SeasonOf. -/
import Derived.Test.YtgedcfgmfhlkdaaDoorHIsW
set_option linter.unusedVariables false
set_option linter.unusedSimpArgs false
namespace Go.Proofs.YtgedcfgmfhlkdaaDoor
open Go.RowKit Go.Shelf
set_option maxRecDepth 100000 in
set_option maxHeartbeats 2000000 in
theorem kind_bad (ha : Option Addr) (hl hc : Nat) (sa : Option Addr) (sl sc : Nat) (H : Nat → Ho) (S : Nat → Se) (x : Int) (hcal : ¬ CalIs H hl S sl) (w : World) (hH : HosAt w.heap.size w ha hl H) (hS : SeasAt w.heap.size w sa sl S) (hT : Tabs w) (hlm : hl ≤ maxLen) (slm : sl ≤ maxLen) :
    Calls Tryd.prog 14 #[calV ha hl hc sa sl sc, .int .i64 x] w fun e w' => e = .returned (.tuple #[.int .i64 0, .int .i64 80]) ∧ Below w.heap.size w w' := by
  have hb0 := (Below.refl _ w).alloc (Nat.le_refl _) (.cells #[.slice ha hl hc, .slice sa sl sc] 25)
  have hH0 := (hH.next hb0 (Nat.le_refl _) (Nat.le_refl _)).mono hb0.size
  have hS0 := (hS.next hb0 (Nat.le_refl _) (Nat.le_refl _)).mono hb0.size
  have hzc := heap_alloc_new w (.cells #[.slice ha hl hc, .slice sa sl sc] 25)
  have HD := Lib.hid (is_bad ha hl hc sa sl sc H S x hcal _ hH0 hS0 (hT.next hb0) hlm slm)
  have HB0 := Lib.hid hb0
  clear hb0 hH0 hS0 hzc hH hS hT hlm slm
  go_enter Tryd.func14, Tryd.ntmps14
  go_wp2_with (first
    | (go_at_call 13; refine HD.out.mono ?_; rintro e w1 ⟨rfl, hB1⟩; have HB1 := Lib.hid hB1; clear hB1)
    | (go_at_call 38; refine (kindOf_any x _ (by omega) (by omega) _).mono ?_; rintro e w2 ⟨rfl, rfl⟩))
  go_ret2
  exact ⟨rfl, HB0.out.trans (HB1.out.mono HB0.out.size)⟩
set_option maxRecDepth 100000 in
set_option maxHeartbeats 2000000 in
theorem kind_no (ha : Option Addr) (hl hc : Nat) (sa : Option Addr) (sl sc : Nat) (H : Nat → Ho) (S : Nat → Se) (x : Int) (hcal : CalIs H hl S sl) (hd : ¬ (0 ≤ x ∧ x ≤ 2932896)) (w : World) (hH : HosAt w.heap.size w ha hl H) (hS : SeasAt w.heap.size w sa sl S) (hT : Tabs w) (hlm : hl ≤ maxLen) (slm : sl ≤ maxLen) :
    Calls Tryd.prog 14 #[calV ha hl hc sa sl sc, .int .i64 x] w fun e w' => e = .returned (.tuple #[.int .i64 0, .int .i64 60]) ∧ Below w.heap.size w w' := by
  have hb0 := (Below.refl _ w).alloc (Nat.le_refl _) (.cells #[.slice ha hl hc, .slice sa sl sc] 25)
  have hH0 := (hH.next hb0 (Nat.le_refl _) (Nat.le_refl _)).mono hb0.size
  have hS0 := (hS.next hb0 (Nat.le_refl _) (Nat.le_refl _)).mono hb0.size
  have hzc := heap_alloc_new w (.cells #[.slice ha hl hc, .slice sa sl sc] 25)
  have HD := Lib.hid (is_no ha hl hc sa sl sc H S x hcal hd _ hH0 hS0 (hT.next hb0) hlm slm)
  have HB0 := Lib.hid hb0
  clear hb0 hH0 hS0 hzc hH hS hT hlm slm
  go_enter Tryd.func14, Tryd.ntmps14
  go_wp2_with (first
    | (go_at_call 13; refine HD.out.mono ?_; rintro e w1 ⟨rfl, hB1⟩; have HB1 := Lib.hid hB1; clear hB1)
    | (go_at_call 38; refine (kindOf_any x _ (by omega) (by omega) _).mono ?_; rintro e w2 ⟨rfl, rfl⟩))
  go_ret2
  exact ⟨rfl, HB0.out.trans (HB1.out.mono HB0.out.size)⟩
set_option maxRecDepth 100000 in
set_option maxHeartbeats 2000000 in
theorem kind_yes (ha : Option Addr) (hl hc : Nat) (sa : Option Addr) (sl sc : Nat) (H : Nat → Ho) (S : Nat → Se) (x : Int) (hcal : CalIs H hl S sl) (y m d : Int) (hd : IsDate x y m d) (w : World) (hH : HosAt w.heap.size w ha hl H) (hS : SeasAt w.heap.size w sa sl S) (hT : Tabs w) (hlm : hl ≤ maxLen) (slm : sl ≤ maxLen) :
    Calls Tryd.prog 14 #[calV ha hl hc sa sl sc, .int .i64 x] w fun e w' => e = .returned (.tuple #[.int .i64 (kindB x (decide (x ∈ hds H y hl))), .int .i64 0]) ∧ Below w.heap.size w w' := by
  have hb0 := (Below.refl _ w).alloc (Nat.le_refl _) (.cells #[.slice ha hl hc, .slice sa sl sc] 25)
  have hH0 := (hH.next hb0 (Nat.le_refl _) (Nat.le_refl _)).mono hb0.size
  have hS0 := (hS.next hb0 (Nat.le_refl _) (Nat.le_refl _)).mono hb0.size
  have hzc := heap_alloc_new w (.cells #[.slice ha hl hc, .slice sa sl sc] 25)
  have HD := Lib.hid (is_yes ha hl hc sa sl sc H S x hcal y m d hd _ hH0 hS0 (hT.next hb0) hlm slm)
  have HB0 := Lib.hid hb0
  have hx := day_bounds hd.1
  rw [← hd.2] at hx
  obtain ⟨hx0, hx1⟩ := hx
  obtain ⟨f, hf⟩ : ∃ f, f = decide (x ∈ hds H y hl) := ⟨_, rfl⟩
  rw [← hf] at HD ⊢
  clear hcal hd hf
  clear hb0 hH0 hS0 hzc hH hS hT hlm slm
  go_enter Tryd.func14, Tryd.ntmps14
  go_wp2_with (first
    | (go_at_call 13; refine HD.out.mono ?_; rintro e w1 ⟨rfl, hB1⟩; have HB1 := Lib.hid hB1; clear hB1)
    | (go_at_call 38; refine (kindOf_any x _ hx0 hx1 _).mono ?_; rintro e w2 ⟨rfl, rfl⟩))
  go_ret2
  exact ⟨rfl, HB0.out.trans (HB1.out.mono HB0.out.size)⟩
set_option maxRecDepth 100000 in
set_option maxHeartbeats 2000000 in
theorem season_bad (ha : Option Addr) (hl hc : Nat) (sa : Option Addr) (sl sc : Nat) (H : Nat → Ho) (S : Nat → Se) (x : Int) (hcal : ¬ CalIs H hl S sl) (w : World) (hH : HosAt w.heap.size w ha hl H) (hS : SeasAt w.heap.size w sa sl S) (hT : Tabs w) (hlm : hl ≤ maxLen) (slm : sl ≤ maxLen) :
    Calls Tryd.prog 15 #[calV ha hl hc sa sl sc, .int .i64 x] w fun e w' => e = .returned (.tuple #[.int .i64 0, .int .i64 80]) ∧ Below w.heap.size w w' := by
  have hb0 := (Below.refl _ w).alloc (Nat.le_refl _) (.cells #[.slice ha hl hc, .slice sa sl sc] 25)
  have hH0 := (hH.next hb0 (Nat.le_refl _) (Nat.le_refl _)).mono hb0.size
  have hS0 := (hS.next hb0 (Nat.le_refl _) (Nat.le_refl _)).mono hb0.size
  have hzc := heap_alloc_new w (.cells #[.slice ha hl hc, .slice sa sl sc] 25)
  have HD := Lib.hid (dateOf_bad ha hl hc sa sl sc H S x hcal _ hH0 hS0 (hT.next hb0) hlm slm)
  have HB0 := Lib.hid hb0
  clear hb0 hH0 hS0 hzc hH hS hT hlm slm
  go_enter Tryd.func15, Tryd.ntmps15
  go_wp2_with (go_at_call 36; refine HD.out.mono ?_; rintro e w1 ⟨rfl, hB1⟩; have HB1 := Lib.hid hB1; clear hB1)
  go_ret2
  have hbf := HB0.out.trans (HB1.out.mono HB0.out.size)
  exact ⟨rfl, hbf.alloc hbf.size _⟩
set_option maxRecDepth 100000 in
set_option maxHeartbeats 2000000 in
theorem season_no (ha : Option Addr) (hl hc : Nat) (sa : Option Addr) (sl sc : Nat) (H : Nat → Ho) (S : Nat → Se) (x : Int) (hcal : CalIs H hl S sl) (hd : ¬ (0 ≤ x ∧ x ≤ 2932896)) (w : World) (hH : HosAt w.heap.size w ha hl H) (hS : SeasAt w.heap.size w sa sl S) (hT : Tabs w) (hlm : hl ≤ maxLen) (slm : sl ≤ maxLen) :
    Calls Tryd.prog 15 #[calV ha hl hc sa sl sc, .int .i64 x] w fun e w' => e = .returned (.tuple #[.int .i64 0, .int .i64 60]) ∧ Below w.heap.size w w' := by
  have hb0 := (Below.refl _ w).alloc (Nat.le_refl _) (.cells #[.slice ha hl hc, .slice sa sl sc] 25)
  have hH0 := (hH.next hb0 (Nat.le_refl _) (Nat.le_refl _)).mono hb0.size
  have hS0 := (hS.next hb0 (Nat.le_refl _) (Nat.le_refl _)).mono hb0.size
  have hzc := heap_alloc_new w (.cells #[.slice ha hl hc, .slice sa sl sc] 25)
  have HD := Lib.hid (dateOf_no ha hl hc sa sl sc H S x hcal hd _ hH0 hS0 (hT.next hb0) hlm slm)
  have HB0 := Lib.hid hb0
  clear hb0 hH0 hS0 hzc hH hS hT hlm slm
  go_enter Tryd.func15, Tryd.ntmps15
  go_wp2_with (go_at_call 36; refine HD.out.mono ?_; rintro e w1 ⟨rfl, hB1⟩; have HB1 := Lib.hid hB1; clear hB1)
  go_ret2
  have hbf := HB0.out.trans (HB1.out.mono HB0.out.size)
  exact ⟨rfl, hbf.alloc hbf.size _⟩
set_option maxRecDepth 100000 in
set_option maxHeartbeats 4000000 in
theorem season_yes (ha : Option Addr) (hl hc : Nat) (sa : Option Addr) (sl sc : Nat) (H : Nat → Ho) (S : Nat → Se) (x : Int) (hcal : CalIs H hl S sl) (y m d : Int) (hd : IsDate x y m d) (w : World) (hH : HosAt w.heap.size w ha hl H) (hS : SeasAt w.heap.size w sa sl S) (hT : Tabs w) (hlm : hl ≤ maxLen) (slm : sl ≤ maxLen) :
    Calls Tryd.prog 15 #[calV ha hl hc sa sl sc, .int .i64 x] w fun e w' => (∃ r : Int, SeaIs S sl (bgn m d) r ∧ e = .returned (.tuple #[.int .i64 r, .int .i64 0])) ∧ Below w.heap.size w w' := by
  have hb0 := (Below.refl _ w).alloc (Nat.le_refl _) (.cells #[.slice ha hl hc, .slice sa sl sc] 25)
  have hH0 := (hH.next hb0 (Nat.le_refl _) (Nat.le_refl _)).mono hb0.size
  have hS0 := (hS.next hb0 (Nat.le_refl _) (Nat.le_refl _)).mono hb0.size
  have hzc := heap_alloc_new w (.cells #[.slice ha hl hc, .slice sa sl sc] 25)
  have HD := Lib.hid (dateOf_yes ha hl hc sa sl sc H S x hcal y m d hd _ hH0 hS0 (hT.next hb0) hlm slm)
  have HB0 := Lib.hid hb0
  have HZC := Lib.hid hzc
  have HS := Lib.hid hS
  have HCAL := Lib.hid hcal
  have hmd : (1 ≤ m ∧ m ≤ 12) ∧ (1 ≤ d ∧ d ≤ 31) := by
    obtain ⟨⟨_, _, h3, h4, h5, h6⟩, _⟩ := hd
    have := dlen_bounds (y := y) (m := m)
    omega
  obtain ⟨hm12, hd31⟩ := hmd
  clear hb0 hH0 hS0 hzc hH hS hT hlm slm hcal hd
  go_enter Tryd.func15, Tryd.ntmps15
  go_wp2_with (go_at_call 36; refine HD.out.mono ?_; rintro e w1 ⟨rfl, hB1⟩; have HB1 := Lib.hid hB1; clear hB1)
  have hs1 : w.heap.size + 1 ≤ w1.heap.size := by have := HB1.out.size; rw [World.size_alloc] at this; exact this
  have hb1 := HB0.out.trans (HB1.out.mono HB0.out.size)
  have xzc := heap_old ((HB1.out.block w.heap.size (by rw [World.size_alloc]; omega)).trans HZC.out) (.cells #[.int .i64 y, .int .i64 m, .int .i64 d] 39)
  have xzd := heap_alloc_new w1 (.cells #[.int .i64 y, .int .i64 m, .int .i64 d] 39)
  have xb := hb1.alloc hb1.size (.cells #[.int .i64 y, .int .i64 m, .int .i64 d] 39)
  have xs : (w1.alloc (.cells #[.int .i64 y, .int .i64 m, .int .i64 d] 39)).heap.size = w1.heap.size + 1 := World.size_alloc _ _
  obtain ⟨X, hX⟩ : ∃ X, w1.alloc (.cells #[.int .i64 y, .int .i64 m, .int .i64 d] 39) = X := ⟨_, rfl⟩
  obtain ⟨B2, hB2⟩ : ∃ B2, B2 = w1.heap.size := ⟨_, rfl⟩
  rw [hX] at xzc xzd xb xs ⊢
  rw [← hB2] at xzd xs hs1 ⊢
  have XZC := Lib.hid xzc
  have XZD := Lib.hid xzd
  have XB := Lib.hid xb
  have XS := Lib.hid xs
  have q1 : X.drew.cell? ⟨w.heap.size, 0, none⟩ = some (.slice ha hl hc) ∧ X.drew.cell? ⟨w.heap.size, 1, none⟩ = some (.slice sa sl sc) ∧ X.drew.cell? ⟨B2, 1, none⟩ = some (.int .i64 m) ∧ X.drew.cell? ⟨B2, 2, none⟩ = some (.int .i64 d) := ⟨cell_of_row _ _ 0 _ _ _ xzc, cell_of_row _ _ 1 _ _ _ xzc, cell_of_row _ _ 1 _ _ _ xzd, cell_of_row _ _ 2 _ _ _ xzd⟩
  have HBG := Lib.hid (begins_any (H := Unit) ha hl hc sa sl sc S X.drew (show SeasAt X.drew.heap.size X.drew sa sl S from (HS.out.next xb (Nat.le_refl _) (Nat.le_refl _)).mono xb.size) HCAL.out.2.2.2.1 HCAL.out.2.1)
  clear xzc xzd xb hX hB2 hb1 HB0 HZC HD HB1 xs
  go_wp2_with fail
  go_region_held3 (fun w' => w'.cell? ⟨w.heap.size, 0, none⟩ = some (.slice ha hl hc) ∧ w'.cell? ⟨w.heap.size, 1, none⟩ = some (.slice sa sl sc) ∧ w'.cell? ⟨B2, 1, none⟩ = some (.int .i64 m) ∧ w'.cell? ⟨B2, 2, none⟩ = some (.int .i64 d))
    (first | (with_reducible exact q1) | (with_reducible exact q2) | (with_reducible exact q3) | go_keep)
    (first
      | (go_at_call 35; ((with_reducible refine HBG.out.mono ?_); rintro e w2' ⟨rfl, hown2, hB2'⟩; have gc := (hB2'.block w.heap.size (by rw [show X.drew.heap.size = B2 + 1 from XS.out]; omega)).trans XZC.out; have gd := (hB2'.block B2 (by rw [show X.drew.heap.size = B2 + 1 from XS.out]; omega)).trans XZD.out; have q2 : w2'.cell? ⟨w.heap.size, 0, none⟩ = some (.slice ha hl hc) ∧ w2'.cell? ⟨w.heap.size, 1, none⟩ = some (.slice sa sl sc) ∧ w2'.cell? ⟨B2, 1, none⟩ = some (.int .i64 m) ∧ w2'.cell? ⟨B2, 2, none⟩ = some (.int .i64 d) := ⟨cell_of_row _ _ 0 _ _ _ gc, cell_of_row _ _ 1 _ _ _ gc, cell_of_row _ _ 1 _ _ _ gd, cell_of_row _ _ 2 _ _ _ gd⟩; have hs2 : B2 + 1 ≤ w2'.heap.size := (by have := hB2'.size; rw [show X.drew.heap.size = B2 + 1 from XS.out] at this; exact this); have GC := Lib.hid gc; have GD := Lib.hid gd; have HB2 := Lib.hid hB2'; have HNA := Lib.hid (numberAt_any (X.heap.size + 1) S sl (bgn m d) w2' hown2 HCAL.out.2.2.2.1 HCAL.out.2.2.2.2); clear gc gd hB2' hown2))
      | (go_at_call 40; ((with_reducible refine (beginOn_any m d hm12 hd31 _).mono ?_); rintro e w4' ⟨rfl, rfl⟩))
      | (go_at_call 39; ((with_reducible refine HNA.out.mono ?_); rintro e w3' ⟨⟨r, hr, rfl⟩, hB3'⟩; have q3 : w3'.cell? ⟨w.heap.size, 0, none⟩ = some (.slice ha hl hc) ∧ w3'.cell? ⟨w.heap.size, 1, none⟩ = some (.slice sa sl sc) ∧ w3'.cell? ⟨B2, 1, none⟩ = some (.int .i64 m) ∧ w3'.cell? ⟨B2, 2, none⟩ = some (.int .i64 d) := (by have gc := (hB3'.block w.heap.size (by omega)).trans GC.out; have gd := (hB3'.block B2 (by omega)).trans GD.out; exact ⟨cell_of_row _ _ 0 _ _ _ gc, cell_of_row _ _ 1 _ _ _ gc, cell_of_row _ _ 1 _ _ _ gd, cell_of_row _ _ 2 _ _ _ gd⟩); have HB3 := Lib.hid hB3'; have HR := Lib.hid hr; clear hB3' hr)))
  all_goals
    rename_i hHeld
    have hbf := XB.out.drew.trans (HB2.out.mono (by rw [show X.drew.heap.size = B2 + 1 from XS.out]; omega))
    have hbg := hbf.trans (HB3.out.mono hbf.size)
    have HBG2 := Lib.hid hbg
    clear hHeld q1 q2 q3 hbf hbg HB2 HB3
    go_wp2
    go_ret2
    exact ⟨⟨r, HR.out, rfl⟩, HBG2.out⟩
end Go.Proofs.YtgedcfgmfhlkdaaDoor
