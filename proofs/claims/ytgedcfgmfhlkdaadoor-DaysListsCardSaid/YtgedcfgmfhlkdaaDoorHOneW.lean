/- The statement DaysOne, walked. -/
import Derived.Test.YtgedcfgmfhlkdaaDoorHAlive
set_option linter.unusedVariables false
set_option linter.unusedSimpArgs false
namespace Go.Proofs.YtgedcfgmfhlkdaaDoor
open Go.RowKit Go.Shelf
def greatB (hl sl : Nat) : Bool := decide (120 < hl ∨ 30 < sl)
set_option maxRecDepth 100000 in
theorem great_any (ha : Option Addr) (hl hc : Nat) (sa : Option Addr) (sl sc : Nat) (hlm : hl ≤ maxLen) (slm : sl ≤ maxLen) (w : World) :
    Calls Tryd.prog 9 #[calV ha hl hc sa sl sc] w fun e w' => e = .returned (.bool (greatB hl sl)) ∧ Below w.heap.size w w' := by
  have HB := Lib.hid ((Below.refl _ w).alloc (Nat.le_refl _) (.cells #[.slice ha hl hc, .slice sa sl sc] 25))
  unfold greatB
  unfold maxLen at hlm slm
  by_cases h1 : 120 < hl
  · rw [show decide (120 < hl ∨ 30 < sl) = true from decide_eq_true (.inl h1)]
    have g1 : (120 : Int) < hl := by omega
    go_enter Tryd.func9, Tryd.ntmps9
    go_wp2
    go_ret
    exact ⟨rfl, HB.out⟩
  · have g1 : ¬ (120 : Int) < hl := by omega
    by_cases h2 : 30 < sl
    · rw [show decide (120 < hl ∨ 30 < sl) = true from decide_eq_true (.inr h2)]
      have g2 : (30 : Int) < sl := by omega
      go_enter Tryd.func9, Tryd.ntmps9
      go_wp2
      go_ret
      exact ⟨rfl, HB.out⟩
    · rw [show decide (120 < hl ∨ 30 < sl) = false from decide_eq_false (by omega)]
      have g2 : ¬ (30 : Int) < sl := by omega
      go_enter Tryd.func9, Tryd.ntmps9
      go_wp2
      go_ret
      exact ⟨rfl, HB.out⟩
theorem greatB_yes {hl sl : Nat} (h : 120 < hl ∨ 30 < sl) : greatB hl sl = true := decide_eq_true h
theorem greatB_no {hl sl : Nat} (h : ¬ (120 < hl ∨ 30 < sl)) : greatB hl sl = false := decide_eq_false h
theorem slice_hos (W : World) (a : Option Addr) (len c p : Nat) (hp : p ≤ c) : (Instr.slice 22 (.slice a len c) none (some (.int .i64 (p : Int))) none).run Tryd.prog W = .ok (.slice a p c) W := by
  have h0 : (0 : Int) ≤ p := by omega
  have hp' : (p : Int) ≤ c := by omega
  have hu := Tryd.underlying22
  cases a <;> simp [go_sem, h0, hp', hu]
theorem cal_less {H : Nat → Ho} {hl n : Nat} {S : Nat → Se} {sl : Nat} (h : CalIs H hl S sl) (hn : n ≤ hl) : CalIs H n S sl :=
  ⟨Nat.le_trans hn h.1, h.2.1, fun i hi => h.2.2.1 i (by omega), h.2.2.2.1, h.2.2.2.2⟩
theorem hos_less {B : Nat} {W : World} {a : Option Addr} {hl n : Nat} {H : Nat → Ho} (h : HosAt B W a hl H) (hn : n ≤ hl) : HosAt B W a n H := fun i hi => h i (by omega)
theorem hds_less {H : Nat → Ho} {y x : Int} {n hl : Nat} (hn : n ≤ hl) (h : x ∈ hds H y n) : x ∈ hds H y hl := by
  obtain ⟨i, hi, hx⟩ := mem_hds.1 h
  exact mem_hds.2 ⟨i, by omega, hx⟩
set_option maxRecDepth 100000 in
set_option maxHeartbeats 4000000 in
theorem oneW_great (ha : Option Addr) (hl hc : Nat) (sa : Option Addr) (sl sc : Nat) (H : Nat → Ho) (S : Nat → Se) (stay x : Int) (hhc : hl ≤ hc) (hg : 120 < hl ∨ 30 < sl) (w : World) (hH : HosAt w.heap.size w ha hl H) (hS : SeasAt w.heap.size w sa sl S) (hT : Tabs w) (hlm : hl ≤ maxLen) (slm : sl ≤ maxLen) :
    Calls Tryd.prog 7 #[calV ha hl hc sa sl sc, .int .i64 stay, .int .i64 x] w fun e w' => e = .returned (.bool true) ∧ Below w.heap.size w w' := by
  have HG := Lib.hid (greatB_yes hg)
  clear hg
  have HHC := Lib.hid hhc
  clear hhc
  have hb0 := (Below.refl _ w).alloc (Nat.le_refl _) (.cells #[.slice ha hl hc, .slice sa sl sc] 25)
  have hzc := heap_alloc_new w (.cells #[.slice ha hl hc, .slice sa sl sc] 25)
  have HAL := Lib.hid (aliveD_any _ (hT.next hb0))
  have HZC := Lib.hid hzc
  have HB0 := Lib.hid hb0
  have HH := Lib.hid hH
  have HS := Lib.hid hS
  have HT := Lib.hid hT
  have HLM := Lib.hid hlm
  have SLM := Lib.hid slm
  clear hb0 hzc hH hS hT hlm slm
  go_enter Tryd.func7, Tryd.ntmps7
  go_wp2_with fail
  refine HAL.out.mono ?_
  rintro e w1 ⟨rfl, hB1⟩
  have hs1 : w.heap.size + 1 ≤ w1.heap.size := by have := hB1.size; rw [World.size_alloc] at this; exact this
  have hz1 := (hB1.block w.heap.size (by rw [World.size_alloc]; omega)).trans HZC.out
  have c0 : w1.cell? ⟨w.heap.size, 0, none⟩ = some (.slice ha hl hc) := cell_of_row _ _ 0 _ _ _ hz1
  have c1 : w1.cell? ⟨w.heap.size, 1, none⟩ = some (.slice sa sl sc) := cell_of_row _ _ 1 _ _ _ hz1
  have HB1 := Lib.hid (HB0.out.trans (hB1.mono HB0.out.size))
  have HZ1 := Lib.hid hz1
  have HGR := Lib.hid (great_any ha hl hc sa sl sc HLM.out SLM.out w1)
  clear hB1 hz1 HAL HZC
  go_wp2_with fail
  rw [HG.out] at HGR
  refine HGR.out.mono ?_
  rintro e w2 ⟨rfl, hB2⟩
  have hz2 := (hB2.block w.heap.size (by omega)).trans HZ1.out
  have d0 : w2.cell? ⟨w.heap.size, 0, none⟩ = some (.slice ha hl hc) := cell_of_row _ _ 0 _ _ _ hz2
  have d1 : w2.cell? ⟨w.heap.size, 1, none⟩ = some (.slice sa sl sc) := cell_of_row _ _ 1 _ _ _ hz2
  have hb2 := HB1.out.trans (hB2.mono HB1.out.size)
  have hs2 := hB2.size
  have HB2 := Lib.hid hb2
  have HZ2 := Lib.hid hz2
  clear hB2 hz2 c0 c1 HGR
  go_wp2
  go_ret
  exact ⟨rfl, HB2.out⟩
set_option maxRecDepth 100000 in
set_option maxHeartbeats 4000000 in
theorem oneW_bad (ha : Option Addr) (hl hc : Nat) (sa : Option Addr) (sl sc : Nat) (H : Nat → Ho) (S : Nat → Se) (stay x : Int) (hhc : hl ≤ hc) (hg : ¬ (120 < hl ∨ 30 < sl)) (hcal : ¬ CalIs H hl S sl) (w : World) (hH : HosAt w.heap.size w ha hl H) (hS : SeasAt w.heap.size w sa sl S) (hT : Tabs w) (hlm : hl ≤ maxLen) (slm : sl ≤ maxLen) :
    Calls Tryd.prog 7 #[calV ha hl hc sa sl sc, .int .i64 stay, .int .i64 x] w fun e w' => e = .returned (.bool true) ∧ Below w.heap.size w w' := by
  have HG := Lib.hid (greatB_no hg)
  have HCE := Lib.hid (calE_no hcal)
  clear hg hcal
  have HHC := Lib.hid hhc
  clear hhc
  have hb0 := (Below.refl _ w).alloc (Nat.le_refl _) (.cells #[.slice ha hl hc, .slice sa sl sc] 25)
  have hzc := heap_alloc_new w (.cells #[.slice ha hl hc, .slice sa sl sc] 25)
  have HAL := Lib.hid (aliveD_any _ (hT.next hb0))
  have HZC := Lib.hid hzc
  have HB0 := Lib.hid hb0
  have HH := Lib.hid hH
  have HS := Lib.hid hS
  have HT := Lib.hid hT
  have HLM := Lib.hid hlm
  have SLM := Lib.hid slm
  clear hb0 hzc hH hS hT hlm slm
  go_enter Tryd.func7, Tryd.ntmps7
  go_wp2_with fail
  refine HAL.out.mono ?_
  rintro e w1 ⟨rfl, hB1⟩
  have hs1 : w.heap.size + 1 ≤ w1.heap.size := by have := hB1.size; rw [World.size_alloc] at this; exact this
  have hz1 := (hB1.block w.heap.size (by rw [World.size_alloc]; omega)).trans HZC.out
  have c0 : w1.cell? ⟨w.heap.size, 0, none⟩ = some (.slice ha hl hc) := cell_of_row _ _ 0 _ _ _ hz1
  have c1 : w1.cell? ⟨w.heap.size, 1, none⟩ = some (.slice sa sl sc) := cell_of_row _ _ 1 _ _ _ hz1
  have HB1 := Lib.hid (HB0.out.trans (hB1.mono HB0.out.size))
  have HZ1 := Lib.hid hz1
  have HGR := Lib.hid (great_any ha hl hc sa sl sc HLM.out SLM.out w1)
  clear hB1 hz1 HAL HZC
  go_wp2_with fail
  rw [HG.out] at HGR
  refine HGR.out.mono ?_
  rintro e w2 ⟨rfl, hB2⟩
  have hz2 := (hB2.block w.heap.size (by omega)).trans HZ1.out
  have d0 : w2.cell? ⟨w.heap.size, 0, none⟩ = some (.slice ha hl hc) := cell_of_row _ _ 0 _ _ _ hz2
  have d1 : w2.cell? ⟨w.heap.size, 1, none⟩ = some (.slice sa sl sc) := cell_of_row _ _ 1 _ _ _ hz2
  have hb2 := HB1.out.trans (hB2.mono HB1.out.size)
  have hs2 := hB2.size
  have HB2 := Lib.hid hb2
  have HZ2 := Lib.hid hz2
  clear hB2 hz2 c0 c1 HGR
  have HCK := Lib.hid (checkD_any ha hl hc sa sl sc H S w2 ((HH.out.next HB2.out (Nat.le_refl _) (Nat.le_refl _)).mono HB2.out.size) ((HS.out.next HB2.out (Nat.le_refl _) (Nat.le_refl _)).mono HB2.out.size) (HT.out.next HB2.out) HLM.out SLM.out)
  rw [HCE.out] at HCK
  go_wp2_with fail
  refine HCK.out.mono ?_
  rintro e w3 ⟨rfl, hB3⟩
  have hz3 := (hB3.block w.heap.size (by omega)).trans HZ2.out
  have hb3 := HB2.out.trans (hB3.mono HB2.out.size)
  have hs3 := hB3.size
  have HB3 := Lib.hid hb3
  have HZ3 := Lib.hid hz3
  clear hB3 hz3 hb3 hb2 d0 d1 HCK
  go_wp2
  go_ret
  exact ⟨rfl, HB3.out⟩
set_option maxRecDepth 100000 in
set_option maxHeartbeats 4000000 in
theorem oneW_no (ha : Option Addr) (hl hc : Nat) (sa : Option Addr) (sl sc : Nat) (H : Nat → Ho) (S : Nat → Se) (stay x : Int) (hhc : hl ≤ hc) (hg : ¬ (120 < hl ∨ 30 < sl)) (hcal : CalIs H hl S sl) (hd : ¬ (0 ≤ x ∧ x ≤ 2932896)) (w : World) (hH : HosAt w.heap.size w ha hl H) (hS : SeasAt w.heap.size w sa sl S) (hT : Tabs w) (hlm : hl ≤ maxLen) (slm : sl ≤ maxLen) :
    Calls Tryd.prog 7 #[calV ha hl hc sa sl sc, .int .i64 stay, .int .i64 x] w fun e w' => e = .returned (.bool true) ∧ Below w.heap.size w w' := by
  have HG := Lib.hid (greatB_no hg)
  have HCE := Lib.hid (calE_yes hcal)
  have HCAL := Lib.hid hcal
  have HD := Lib.hid hd
  clear hg hcal hd
  have HHC := Lib.hid hhc
  clear hhc
  have hb0 := (Below.refl _ w).alloc (Nat.le_refl _) (.cells #[.slice ha hl hc, .slice sa sl sc] 25)
  have hzc := heap_alloc_new w (.cells #[.slice ha hl hc, .slice sa sl sc] 25)
  have HAL := Lib.hid (aliveD_any _ (hT.next hb0))
  have HZC := Lib.hid hzc
  have HB0 := Lib.hid hb0
  have HH := Lib.hid hH
  have HS := Lib.hid hS
  have HT := Lib.hid hT
  have HLM := Lib.hid hlm
  have SLM := Lib.hid slm
  clear hb0 hzc hH hS hT hlm slm
  have hl100 : hl ≤ 100 := HCAL.out.1
  obtain ⟨n, hn, hnn⟩ : ∃ n : Nat, n ≤ hl ∧ ((stay.tmod ((hl : Int) + 1) + hl + 1).tmod ((hl : Int) + 1)) = n := by
    have h1 := Int.tmod_lt_of_pos (stay.tmod ((hl : Int) + 1) + hl + 1) (show (0 : Int) < hl + 1 by omega)
    have h2 := Int.lt_tmod_of_pos stay (show (0 : Int) < hl + 1 by omega)
    have h3 := Int.tmod_nonneg ((hl : Int) + 1) (show (0 : Int) ≤ stay.tmod ((hl : Int) + 1) + hl + 1 by omega)
    exact ⟨((stay.tmod ((hl : Int) + 1) + hl + 1).tmod ((hl : Int) + 1)).toNat, by omega, by omega⟩
  have hr1 := Int.tmod_lt_of_pos stay (show (0 : Int) < hl + 1 by omega)
  have hr2 := Int.lt_tmod_of_pos stay (show (0 : Int) < hl + 1 by omega)
  obtain ⟨r, hr⟩ : ∃ r, r = stay.tmod ((hl : Int) + 1) := ⟨_, rfl⟩
  rw [← hr] at hnn hr1 hr2
  go_enter Tryd.func7, Tryd.ntmps7
  go_wp2_with fail
  refine HAL.out.mono ?_
  rintro e w1 ⟨rfl, hB1⟩
  have hs1 : w.heap.size + 1 ≤ w1.heap.size := by have := hB1.size; rw [World.size_alloc] at this; exact this
  have hz1 := (hB1.block w.heap.size (by rw [World.size_alloc]; omega)).trans HZC.out
  have c0 : w1.cell? ⟨w.heap.size, 0, none⟩ = some (.slice ha hl hc) := cell_of_row _ _ 0 _ _ _ hz1
  have c1 : w1.cell? ⟨w.heap.size, 1, none⟩ = some (.slice sa sl sc) := cell_of_row _ _ 1 _ _ _ hz1
  have HB1 := Lib.hid (HB0.out.trans (hB1.mono HB0.out.size))
  have HZ1 := Lib.hid hz1
  have HGR := Lib.hid (great_any ha hl hc sa sl sc HLM.out SLM.out w1)
  clear hB1 hz1 HAL HZC
  go_wp2_with fail
  rw [HG.out] at HGR
  refine HGR.out.mono ?_
  rintro e w2 ⟨rfl, hB2⟩
  have hz2 := (hB2.block w.heap.size (by omega)).trans HZ1.out
  have d0 : w2.cell? ⟨w.heap.size, 0, none⟩ = some (.slice ha hl hc) := cell_of_row _ _ 0 _ _ _ hz2
  have d1 : w2.cell? ⟨w.heap.size, 1, none⟩ = some (.slice sa sl sc) := cell_of_row _ _ 1 _ _ _ hz2
  have hb2 := HB1.out.trans (hB2.mono HB1.out.size)
  have hs2 := hB2.size
  have HB2 := Lib.hid hb2
  have HZ2 := Lib.hid hz2
  clear hB2 hz2 c0 c1 HGR
  have HCK := Lib.hid (checkD_any ha hl hc sa sl sc H S w2 ((HH.out.next HB2.out (Nat.le_refl _) (Nat.le_refl _)).mono HB2.out.size) ((HS.out.next HB2.out (Nat.le_refl _) (Nat.le_refl _)).mono HB2.out.size) (HT.out.next HB2.out) HLM.out SLM.out)
  rw [HCE.out] at HCK
  go_wp2_with fail
  refine HCK.out.mono ?_
  rintro e w3 ⟨rfl, hB3⟩
  have hz3 := (hB3.block w.heap.size (by omega)).trans HZ2.out
  have hb3 := HB2.out.trans (hB3.mono HB2.out.size)
  have hs3 := hB3.size
  have HB3 := Lib.hid hb3
  have HZ3 := Lib.hid hz3
  clear hB3 hz3 hb3 hb2 d0 d1 HCK
  have k0 : w3.cell? ⟨w.heap.size, 0, none⟩ = some (.slice ha hl hc) := cell_of_row _ _ 0 _ _ _ HZ3.out
  have k1 : w3.cell? ⟨w.heap.size, 1, none⟩ = some (.slice sa sl sc) := cell_of_row _ _ 1 _ _ _ HZ3.out
  go_wp2_with fail
  have hr0 : stay.tmod ((hl : Int) + 1) = r := hr.symm
  have hne : ((hl : Int) + 1) ≠ 0 := by omega
  clear hr
  go_quiet (fail)
  obtain ⟨X, hX⟩ : ∃ X, w3.drewN nq = X := ⟨_, rfl⟩
  have xz : X.heap[w.heap.size]? = some (.cells #[.slice ha hl hc, .slice sa sl sc] 25) := by rw [← hX]; exact HZ3.out
  have xb : Below w.heap.size w X := by rw [← hX]; exact below_drewN HB3.out nq
  have xs : X.heap.size = w3.heap.size := by rw [← hX]; rfl
  rw [hX]
  have XZ := Lib.hid xz
  have XB := Lib.hid xb
  have hsl : ∀ W, (Instr.slice 22 (.slice ha hl hc) none (some (.int .i64 (n : Int))) none).run Tryd.prog W = .ok (.slice ha n hc) W := fun W => slice_hos W ha hl hc n (Nat.le_trans hn HHC.out)
  have q1 : X.drew.cell? ⟨w.heap.size, 0, none⟩ = some (.slice ha hl hc) ∧ X.drew.cell? ⟨w.heap.size, 1, none⟩ = some (.slice sa sl sc) := ⟨cell_of_row X _ 0 _ _ _ xz, cell_of_row X _ 1 _ _ _ xz⟩
  have q2 : (X.alloc (.cells #[.slice ha n hc, .slice sa sl sc] 25)).drew.cell? ⟨w.heap.size, 0, none⟩ = some (.slice ha hl hc) ∧ (X.alloc (.cells #[.slice ha n hc, .slice sa sl sc] 25)).drew.cell? ⟨w.heap.size, 1, none⟩ = some (.slice sa sl sc) := ⟨cell_of_row (X.alloc (.cells #[.slice ha n hc, .slice sa sl sc] 25)) _ 0 _ _ _ (heap_old xz _), cell_of_row (X.alloc (.cells #[.slice ha n hc, .slice sa sl sc] 25)) _ 1 _ _ _ (heap_old xz _)⟩
  have q3 : (X.alloc (.cells #[.slice none 0 0, .slice none 0 0] 25)).drew.cell? ⟨w.heap.size, 0, none⟩ = some (.slice ha hl hc) ∧ (X.alloc (.cells #[.slice none 0 0, .slice none 0 0] 25)).drew.cell? ⟨w.heap.size, 1, none⟩ = some (.slice sa sl sc) := ⟨cell_of_row (X.alloc (.cells #[.slice none 0 0, .slice none 0 0] 25)) _ 0 _ _ _ (heap_old xz _), cell_of_row (X.alloc (.cells #[.slice none 0 0, .slice none 0 0] 25)) _ 1 _ _ _ (heap_old xz _)⟩
  clear hX xz xb k0 k1 HB3 HZ3 hnn hr0 hne
  go_wp2_with fail
  go_region_held3 (fun w' => w'.cell? ⟨w.heap.size, 0, none⟩ = some (.slice ha hl hc) ∧ w'.cell? ⟨w.heap.size, 1, none⟩ = some (.slice sa sl sc))
    (first | (with_reducible exact q1) | (with_reducible exact q2) | (with_reducible exact q3) | go_keep) (fail)
  rename_i hHeld
  have yz := heap_old XZ.out (.cells #[.slice ha n hc, .slice sa sl sc] 25)
  have yl := heap_alloc_new X (.cells #[.slice ha n hc, .slice sa sl sc] 25)
  rw [xs] at yl
  have yb := XB.out.alloc XB.out.size (.cells #[.slice ha n hc, .slice sa sl sc] 25)
  have ys : (X.alloc (.cells #[.slice ha n hc, .slice sa sl sc] 25)).heap.size = w3.heap.size + 1 := by rw [World.size_alloc, xs]
  obtain ⟨Y, hY⟩ : ∃ Y, (X.alloc (.cells #[.slice ha n hc, .slice sa sl sc] 25)).drew = Y := ⟨_, rfl⟩
  have RC0 := Lib.hid (show Y.heap[w.heap.size]? = some (.cells #[.slice ha hl hc, .slice sa sl sc] 25) from by rw [← hY]; exact yz)
  have RL0 := Lib.hid (show Y.heap[w3.heap.size]? = some (.cells #[.slice ha n hc, .slice sa sl sc] 25) from by rw [← hY]; exact yl)
  have YB0 := Lib.hid (show Below w.heap.size w Y from by rw [← hY]; exact yb.drew)
  have hys0 : w3.heap.size < Y.heap.size := by rw [← hY]; show w3.heap.size < (X.alloc (.cells #[.slice ha n hc, .slice sa sl sc] 25)).heap.size; omega
  have hwl0 : w.heap.size < Y.heap.size := by omega
  rw [hY]
  clear hHeld hY yz yl yb ys q1 q2 q3 XZ XB hsl xs
  have HC := Lib.hid (kind_no ha hl hc sa sl sc H S x HCAL.out HD.out Y ((HH.out.next YB0.out (Nat.le_refl _) (Nat.le_refl _)).mono YB0.out.size) ((HS.out.next YB0.out (Nat.le_refl _) (Nat.le_refl _)).mono YB0.out.size) (HT.out.next YB0.out) HLM.out SLM.out)
  have p0 : Y.cell? ⟨w.heap.size, 0, none⟩ = some (.slice ha hl hc) := cell_of_row _ _ 0 _ _ _ RC0.out
  have p1 : Y.cell? ⟨w.heap.size, 1, none⟩ = some (.slice sa sl sc) := cell_of_row _ _ 1 _ _ _ RC0.out
  have p2 : Y.cell? ⟨w3.heap.size, 0, none⟩ = some (.slice ha n hc) := cell_of_row _ _ 0 _ _ _ RL0.out
  have p3 : Y.cell? ⟨w3.heap.size, 1, none⟩ = some (.slice sa sl sc) := cell_of_row _ _ 1 _ _ _ RL0.out
  go_wp2_with fail
  refine HC.out.mono ?_
  rintro e w4 ⟨rfl, hBn⟩
  have RC1 := Lib.hid ((hBn.block w.heap.size hwl0).trans RC0.out)
  have RL1 := Lib.hid ((hBn.block w3.heap.size hys0).trans RL0.out)
  have YB1 := Lib.hid (YB0.out.trans (hBn.mono YB0.out.size))
  have hys1 : w3.heap.size < w4.heap.size := Nat.lt_of_lt_of_le hys0 hBn.size
  have hwl1 : w.heap.size < w4.heap.size := Nat.lt_of_lt_of_le hwl0 hBn.size
  clear p0 p1 p2 p3 RC0 RL0 YB0 hys0 hwl0 hBn HC
  have HC := Lib.hid (kind_no ha n hc sa sl sc H S x (cal_less HCAL.out hn) HD.out w4 (hos_less ((HH.out.next YB1.out (Nat.le_refl _) (Nat.le_refl _)).mono YB1.out.size) hn) ((HS.out.next YB1.out (Nat.le_refl _) (Nat.le_refl _)).mono YB1.out.size) (HT.out.next YB1.out) (Nat.le_trans hn HLM.out) SLM.out)
  have q0 : w4.cell? ⟨w.heap.size, 0, none⟩ = some (.slice ha hl hc) := cell_of_row _ _ 0 _ _ _ RC1.out
  have q1 : w4.cell? ⟨w.heap.size, 1, none⟩ = some (.slice sa sl sc) := cell_of_row _ _ 1 _ _ _ RC1.out
  have q2 : w4.cell? ⟨w3.heap.size, 0, none⟩ = some (.slice ha n hc) := cell_of_row _ _ 0 _ _ _ RL1.out
  have q3 : w4.cell? ⟨w3.heap.size, 1, none⟩ = some (.slice sa sl sc) := cell_of_row _ _ 1 _ _ _ RL1.out
  go_wp2_with fail
  refine HC.out.mono ?_
  rintro e w5 ⟨rfl, hBn⟩
  have RC2 := Lib.hid ((hBn.block w.heap.size hwl1).trans RC1.out)
  have RL2 := Lib.hid ((hBn.block w3.heap.size hys1).trans RL1.out)
  have YB2 := Lib.hid (YB1.out.trans (hBn.mono YB1.out.size))
  have hys2 : w3.heap.size < w5.heap.size := Nat.lt_of_lt_of_le hys1 hBn.size
  have hwl2 : w.heap.size < w5.heap.size := Nat.lt_of_lt_of_le hwl1 hBn.size
  clear q0 q1 q2 q3 RC1 RL1 YB1 hys1 hwl1 hBn HC
  have HC := Lib.hid (season_no ha hl hc sa sl sc H S x HCAL.out HD.out w5 ((HH.out.next YB2.out (Nat.le_refl _) (Nat.le_refl _)).mono YB2.out.size) ((HS.out.next YB2.out (Nat.le_refl _) (Nat.le_refl _)).mono YB2.out.size) (HT.out.next YB2.out) HLM.out SLM.out)
  have r0 : w5.cell? ⟨w.heap.size, 0, none⟩ = some (.slice ha hl hc) := cell_of_row _ _ 0 _ _ _ RC2.out
  have r1 : w5.cell? ⟨w.heap.size, 1, none⟩ = some (.slice sa sl sc) := cell_of_row _ _ 1 _ _ _ RC2.out
  have r2 : w5.cell? ⟨w3.heap.size, 0, none⟩ = some (.slice ha n hc) := cell_of_row _ _ 0 _ _ _ RL2.out
  have r3 : w5.cell? ⟨w3.heap.size, 1, none⟩ = some (.slice sa sl sc) := cell_of_row _ _ 1 _ _ _ RL2.out
  go_wp2_with fail
  refine HC.out.mono ?_
  rintro e w6 ⟨rfl, hBn⟩
  have RC3 := Lib.hid ((hBn.block w.heap.size hwl2).trans RC2.out)
  have RL3 := Lib.hid ((hBn.block w3.heap.size hys2).trans RL2.out)
  have YB3 := Lib.hid (YB2.out.trans (hBn.mono YB2.out.size))
  have hys3 : w3.heap.size < w6.heap.size := Nat.lt_of_lt_of_le hys2 hBn.size
  have hwl3 : w.heap.size < w6.heap.size := Nat.lt_of_lt_of_le hwl2 hBn.size
  clear r0 r1 r2 r3 RC2 RL2 YB2 hys2 hwl2 hBn HC
  have HC := Lib.hid (season_no ha n hc sa sl sc H S x (cal_less HCAL.out hn) HD.out w6 (hos_less ((HH.out.next YB3.out (Nat.le_refl _) (Nat.le_refl _)).mono YB3.out.size) hn) ((HS.out.next YB3.out (Nat.le_refl _) (Nat.le_refl _)).mono YB3.out.size) (HT.out.next YB3.out) (Nat.le_trans hn HLM.out) SLM.out)
  have s0 : w6.cell? ⟨w.heap.size, 0, none⟩ = some (.slice ha hl hc) := cell_of_row _ _ 0 _ _ _ RC3.out
  have s1 : w6.cell? ⟨w.heap.size, 1, none⟩ = some (.slice sa sl sc) := cell_of_row _ _ 1 _ _ _ RC3.out
  have s2 : w6.cell? ⟨w3.heap.size, 0, none⟩ = some (.slice ha n hc) := cell_of_row _ _ 0 _ _ _ RL3.out
  have s3 : w6.cell? ⟨w3.heap.size, 1, none⟩ = some (.slice sa sl sc) := cell_of_row _ _ 1 _ _ _ RL3.out
  go_wp2_with fail
  refine HC.out.mono ?_
  rintro e w7 ⟨rfl, hBn⟩
  have RC4 := Lib.hid ((hBn.block w.heap.size hwl3).trans RC3.out)
  have RL4 := Lib.hid ((hBn.block w3.heap.size hys3).trans RL3.out)
  have YB4 := Lib.hid (YB3.out.trans (hBn.mono YB3.out.size))
  have hys4 : w3.heap.size < w7.heap.size := Nat.lt_of_lt_of_le hys3 hBn.size
  have hwl4 : w.heap.size < w7.heap.size := Nat.lt_of_lt_of_le hwl3 hBn.size
  clear s0 s1 s2 s3 RC3 RL3 YB3 hys3 hwl3 hBn HC
  go_wp2
  go_ret
  exact ⟨rfl, YB4.out⟩
set_option maxRecDepth 100000 in
set_option maxHeartbeats 4000000 in
theorem oneW_yes (ha : Option Addr) (hl hc : Nat) (sa : Option Addr) (sl sc : Nat) (H : Nat → Ho) (S : Nat → Se) (stay x : Int) (hhc : hl ≤ hc) (hg : ¬ (120 < hl ∨ 30 < sl)) (hcal : CalIs H hl S sl) (y m d : Int) (hdt : IsDate x y m d) (w : World) (hH : HosAt w.heap.size w ha hl H) (hS : SeasAt w.heap.size w sa sl S) (hT : Tabs w) (hlm : hl ≤ maxLen) (slm : sl ≤ maxLen) :
    Calls Tryd.prog 7 #[calV ha hl hc sa sl sc, .int .i64 stay, .int .i64 x] w fun e w' => e = .returned (.bool true) ∧ Below w.heap.size w w' := by
  have HG := Lib.hid (greatB_no hg)
  have HCE := Lib.hid (calE_yes hcal)
  have HCAL := Lib.hid hcal
  have HDT := Lib.hid hdt
  have HHC := Lib.hid hhc
  clear hhc
  have hb0 := (Below.refl _ w).alloc (Nat.le_refl _) (.cells #[.slice ha hl hc, .slice sa sl sc] 25)
  have hzc := heap_alloc_new w (.cells #[.slice ha hl hc, .slice sa sl sc] 25)
  have HAL := Lib.hid (aliveD_any _ (hT.next hb0))
  have HZC := Lib.hid hzc
  have HB0 := Lib.hid hb0
  have HH := Lib.hid hH
  have HS := Lib.hid hS
  have HT := Lib.hid hT
  have HLM := Lib.hid hlm
  have SLM := Lib.hid slm
  clear hb0 hzc hH hS hT hlm slm
  have hl100 : hl ≤ 100 := HCAL.out.1
  obtain ⟨n, hn, hnn⟩ : ∃ n : Nat, n ≤ hl ∧ ((stay.tmod ((hl : Int) + 1) + hl + 1).tmod ((hl : Int) + 1)) = n := by
    have h1 := Int.tmod_lt_of_pos (stay.tmod ((hl : Int) + 1) + hl + 1) (show (0 : Int) < hl + 1 by omega)
    have h2 := Int.lt_tmod_of_pos stay (show (0 : Int) < hl + 1 by omega)
    have h3 := Int.tmod_nonneg ((hl : Int) + 1) (show (0 : Int) ≤ stay.tmod ((hl : Int) + 1) + hl + 1 by omega)
    exact ⟨((stay.tmod ((hl : Int) + 1) + hl + 1).tmod ((hl : Int) + 1)).toNat, by omega, by omega⟩
  have hr1 := Int.tmod_lt_of_pos stay (show (0 : Int) < hl + 1 by omega)
  have hr2 := Int.lt_tmod_of_pos stay (show (0 : Int) < hl + 1 by omega)
  obtain ⟨r, hr⟩ : ∃ r, r = stay.tmod ((hl : Int) + 1) := ⟨_, rfl⟩
  rw [← hr] at hnn hr1 hr2
  have hxb := day_bounds hdt.1
  rw [← hdt.2] at hxb
  have hwk := wkB_in hxb.1 hxb.2
  have hwr : 1 ≤ wkday x ∧ wkday x ≤ 7 := by unfold wkday; omega
  obtain ⟨fa, hfa⟩ : ∃ f, f = decide (x ∈ hds H y hl) := ⟨_, rfl⟩
  obtain ⟨fb, hfb⟩ : ∃ f, f = decide (x ∈ hds H y n) := ⟨_, rfl⟩
  have hff : (fa = true ∧ fb = true) ∨ (fa = true ∧ fb = false) ∨ (fa = false ∧ fb = false) := by
    by_cases h1 : x ∈ hds H y n
    · exact .inl ⟨by rw [hfa]; exact decide_eq_true (hds_less hn h1), by rw [hfb]; exact decide_eq_true h1⟩
    · by_cases h2 : x ∈ hds H y hl
      · exact .inr (.inl ⟨by rw [hfa]; exact decide_eq_true h2, by rw [hfb]; exact decide_eq_false h1⟩)
      · exact .inr (.inr ⟨by rw [hfa]; exact decide_eq_false h2, by rw [hfb]; exact decide_eq_false h1⟩)
  obtain ⟨kw, hkw⟩ : ∃ k, k = kindW x := ⟨_, rfl⟩
  have hwd : ∀ W, Calls Tryd.prog 30 #[.int .i64 x] W fun e w' => e = .returned (.int .i64 (wkday x)) ∧ W = w' := fun W => by have := weekday_any x W; rw [hwk] at this; exact this
  have hcases : (kw = 3 ∧ ∀ W, Calls Tryd.prog 30 #[.int .i64 x] W fun e w' => e = .returned (.int .i64 7) ∧ W = w') ∨ (kw = 2 ∧ ∀ W, Calls Tryd.prog 30 #[.int .i64 x] W fun e w' => e = .returned (.int .i64 6) ∧ W = w') ∨
      (kw = 1 ∧ ∃ v : Int, ((v == 6) = false ∧ (v == 7) = false) ∧ ∀ W, Calls Tryd.prog 30 #[.int .i64 x] W fun e w' => e = .returned (.int .i64 v) ∧ W = w') := by
    unfold kindW at hkw
    by_cases h7 : wkday x = 7
    · rw [if_pos h7] at hkw
      rw [h7] at hwd
      exact .inl ⟨hkw, hwd⟩
    · rw [if_neg h7] at hkw
      by_cases h6 : wkday x = 6
      · rw [if_pos h6] at hkw
        rw [h6] at hwd
        exact .inr (.inl ⟨hkw, hwd⟩)
      · rw [if_neg h6] at hkw
        exact .inr (.inr ⟨hkw, wkday x, ⟨by simp [h6], by simp [h7]⟩, hwd⟩)
  obtain ⟨ka, hka⟩ : ∃ k, k = kindB x fa := ⟨_, rfl⟩
  obtain ⟨kb, hkb⟩ : ∃ k, k = kindB x fb := ⟨_, rfl⟩
  have HKA := Lib.hid (show kindB x (decide (x ∈ hds H y hl)) = ka by rw [← hfa, hka])
  have HKB := Lib.hid (show kindB x (decide (x ∈ hds H y n)) = kb by rw [← hfb, hkb])
  have HFA := Lib.hid (show decide (x ∈ hds H y hl) = fa from hfa.symm)
  have hk : ka = (if fa then 4 else kw) ∧ kb = (if fb then 4 else kw) := ⟨by rw [hka, hkw]; rfl, by rw [hkb, hkw]; rfl⟩
  have HFF := Lib.hid hff
  have HCA := Lib.hid hcases
  have HKK := Lib.hid hk
  clear hg hcal hdt hfa hfb hka hkb hkw hwk hwr hwd hxb hff hcases hk
  go_enter Tryd.func7, Tryd.ntmps7
  go_wp2_with fail
  refine HAL.out.mono ?_
  rintro e w1 ⟨rfl, hB1⟩
  have hs1 : w.heap.size + 1 ≤ w1.heap.size := by have := hB1.size; rw [World.size_alloc] at this; exact this
  have hz1 := (hB1.block w.heap.size (by rw [World.size_alloc]; omega)).trans HZC.out
  have c0 : w1.cell? ⟨w.heap.size, 0, none⟩ = some (.slice ha hl hc) := cell_of_row _ _ 0 _ _ _ hz1
  have c1 : w1.cell? ⟨w.heap.size, 1, none⟩ = some (.slice sa sl sc) := cell_of_row _ _ 1 _ _ _ hz1
  have HB1 := Lib.hid (HB0.out.trans (hB1.mono HB0.out.size))
  have HZ1 := Lib.hid hz1
  have HGR := Lib.hid (great_any ha hl hc sa sl sc HLM.out SLM.out w1)
  clear hB1 hz1 HAL HZC
  go_wp2_with fail
  rw [HG.out] at HGR
  refine HGR.out.mono ?_
  rintro e w2 ⟨rfl, hB2⟩
  have hz2 := (hB2.block w.heap.size (by omega)).trans HZ1.out
  have d0 : w2.cell? ⟨w.heap.size, 0, none⟩ = some (.slice ha hl hc) := cell_of_row _ _ 0 _ _ _ hz2
  have d1 : w2.cell? ⟨w.heap.size, 1, none⟩ = some (.slice sa sl sc) := cell_of_row _ _ 1 _ _ _ hz2
  have hb2 := HB1.out.trans (hB2.mono HB1.out.size)
  have hs2 := hB2.size
  have HB2 := Lib.hid hb2
  have HZ2 := Lib.hid hz2
  clear hB2 hz2 c0 c1 HGR
  have HCK := Lib.hid (checkD_any ha hl hc sa sl sc H S w2 ((HH.out.next HB2.out (Nat.le_refl _) (Nat.le_refl _)).mono HB2.out.size) ((HS.out.next HB2.out (Nat.le_refl _) (Nat.le_refl _)).mono HB2.out.size) (HT.out.next HB2.out) HLM.out SLM.out)
  rw [HCE.out] at HCK
  go_wp2_with fail
  refine HCK.out.mono ?_
  rintro e w3 ⟨rfl, hB3⟩
  have hz3 := (hB3.block w.heap.size (by omega)).trans HZ2.out
  have hb3 := HB2.out.trans (hB3.mono HB2.out.size)
  have hs3 := hB3.size
  have HB3 := Lib.hid hb3
  have HZ3 := Lib.hid hz3
  clear hB3 hz3 hb3 hb2 d0 d1 HCK
  have k0 : w3.cell? ⟨w.heap.size, 0, none⟩ = some (.slice ha hl hc) := cell_of_row _ _ 0 _ _ _ HZ3.out
  have k1 : w3.cell? ⟨w.heap.size, 1, none⟩ = some (.slice sa sl sc) := cell_of_row _ _ 1 _ _ _ HZ3.out
  go_wp2_with fail
  have hr0 : stay.tmod ((hl : Int) + 1) = r := hr.symm
  have hne : ((hl : Int) + 1) ≠ 0 := by omega
  clear hr
  go_quiet (fail)
  obtain ⟨X, hX⟩ : ∃ X, w3.drewN nq = X := ⟨_, rfl⟩
  have xz : X.heap[w.heap.size]? = some (.cells #[.slice ha hl hc, .slice sa sl sc] 25) := by rw [← hX]; exact HZ3.out
  have xb : Below w.heap.size w X := by rw [← hX]; exact below_drewN HB3.out nq
  have xs : X.heap.size = w3.heap.size := by rw [← hX]; rfl
  rw [hX]
  have XZ := Lib.hid xz
  have XB := Lib.hid xb
  have hsl : ∀ W, (Instr.slice 22 (.slice ha hl hc) none (some (.int .i64 (n : Int))) none).run Tryd.prog W = .ok (.slice ha n hc) W := fun W => slice_hos W ha hl hc n (Nat.le_trans hn HHC.out)
  have q1 : X.drew.cell? ⟨w.heap.size, 0, none⟩ = some (.slice ha hl hc) ∧ X.drew.cell? ⟨w.heap.size, 1, none⟩ = some (.slice sa sl sc) := ⟨cell_of_row X _ 0 _ _ _ xz, cell_of_row X _ 1 _ _ _ xz⟩
  have q2 : (X.alloc (.cells #[.slice ha n hc, .slice sa sl sc] 25)).drew.cell? ⟨w.heap.size, 0, none⟩ = some (.slice ha hl hc) ∧ (X.alloc (.cells #[.slice ha n hc, .slice sa sl sc] 25)).drew.cell? ⟨w.heap.size, 1, none⟩ = some (.slice sa sl sc) := ⟨cell_of_row (X.alloc (.cells #[.slice ha n hc, .slice sa sl sc] 25)) _ 0 _ _ _ (heap_old xz _), cell_of_row (X.alloc (.cells #[.slice ha n hc, .slice sa sl sc] 25)) _ 1 _ _ _ (heap_old xz _)⟩
  have q3 : (X.alloc (.cells #[.slice none 0 0, .slice none 0 0] 25)).drew.cell? ⟨w.heap.size, 0, none⟩ = some (.slice ha hl hc) ∧ (X.alloc (.cells #[.slice none 0 0, .slice none 0 0] 25)).drew.cell? ⟨w.heap.size, 1, none⟩ = some (.slice sa sl sc) := ⟨cell_of_row (X.alloc (.cells #[.slice none 0 0, .slice none 0 0] 25)) _ 0 _ _ _ (heap_old xz _), cell_of_row (X.alloc (.cells #[.slice none 0 0, .slice none 0 0] 25)) _ 1 _ _ _ (heap_old xz _)⟩
  clear hX xz xb k0 k1 HB3 HZ3 hnn hr0 hne
  go_wp2_with fail
  go_region_held3 (fun w' => w'.cell? ⟨w.heap.size, 0, none⟩ = some (.slice ha hl hc) ∧ w'.cell? ⟨w.heap.size, 1, none⟩ = some (.slice sa sl sc))
    (first | (with_reducible exact q1) | (with_reducible exact q2) | (with_reducible exact q3) | go_keep) (fail)
  rename_i hHeld
  have yz := heap_old XZ.out (.cells #[.slice ha n hc, .slice sa sl sc] 25)
  have yl := heap_alloc_new X (.cells #[.slice ha n hc, .slice sa sl sc] 25)
  rw [xs] at yl
  have yb := XB.out.alloc XB.out.size (.cells #[.slice ha n hc, .slice sa sl sc] 25)
  have ys : (X.alloc (.cells #[.slice ha n hc, .slice sa sl sc] 25)).heap.size = w3.heap.size + 1 := by rw [World.size_alloc, xs]
  obtain ⟨Y, hY⟩ : ∃ Y, (X.alloc (.cells #[.slice ha n hc, .slice sa sl sc] 25)).drew = Y := ⟨_, rfl⟩
  have RC0 := Lib.hid (show Y.heap[w.heap.size]? = some (.cells #[.slice ha hl hc, .slice sa sl sc] 25) from by rw [← hY]; exact yz)
  have RL0 := Lib.hid (show Y.heap[w3.heap.size]? = some (.cells #[.slice ha n hc, .slice sa sl sc] 25) from by rw [← hY]; exact yl)
  have YB0 := Lib.hid (show Below w.heap.size w Y from by rw [← hY]; exact yb.drew)
  have hys0 : w3.heap.size < Y.heap.size := by rw [← hY]; show w3.heap.size < (X.alloc (.cells #[.slice ha n hc, .slice sa sl sc] 25)).heap.size; omega
  have hwl0 : w.heap.size < Y.heap.size := by omega
  rw [hY]
  clear hHeld hY yz yl yb ys q1 q2 q3 XZ XB hsl xs
  have HC := Lib.hid (kind_yes ha hl hc sa sl sc H S x HCAL.out y m d HDT.out Y ((HH.out.next YB0.out (Nat.le_refl _) (Nat.le_refl _)).mono YB0.out.size) ((HS.out.next YB0.out (Nat.le_refl _) (Nat.le_refl _)).mono YB0.out.size) (HT.out.next YB0.out) HLM.out SLM.out)
  rw [HKA.out] at HC
  have p0 : Y.cell? ⟨w.heap.size, 0, none⟩ = some (.slice ha hl hc) := cell_of_row _ _ 0 _ _ _ RC0.out
  have p1 : Y.cell? ⟨w.heap.size, 1, none⟩ = some (.slice sa sl sc) := cell_of_row _ _ 1 _ _ _ RC0.out
  have p2 : Y.cell? ⟨w3.heap.size, 0, none⟩ = some (.slice ha n hc) := cell_of_row _ _ 0 _ _ _ RL0.out
  have p3 : Y.cell? ⟨w3.heap.size, 1, none⟩ = some (.slice sa sl sc) := cell_of_row _ _ 1 _ _ _ RL0.out
  go_wp2_with fail
  refine HC.out.mono ?_
  rintro e w4 ⟨rfl, hBn⟩
  have RC1 := Lib.hid ((hBn.block w.heap.size hwl0).trans RC0.out)
  have RL1 := Lib.hid ((hBn.block w3.heap.size hys0).trans RL0.out)
  have YB1 := Lib.hid (YB0.out.trans (hBn.mono YB0.out.size))
  have hys1 : w3.heap.size < w4.heap.size := Nat.lt_of_lt_of_le hys0 hBn.size
  have hwl1 : w.heap.size < w4.heap.size := Nat.lt_of_lt_of_le hwl0 hBn.size
  clear p0 p1 p2 p3 RC0 RL0 YB0 hys0 hwl0 hBn HC
  have HC := Lib.hid (kind_yes ha n hc sa sl sc H S x (cal_less HCAL.out hn) y m d HDT.out w4 (hos_less ((HH.out.next YB1.out (Nat.le_refl _) (Nat.le_refl _)).mono YB1.out.size) hn) ((HS.out.next YB1.out (Nat.le_refl _) (Nat.le_refl _)).mono YB1.out.size) (HT.out.next YB1.out) (Nat.le_trans hn HLM.out) SLM.out)
  rw [HKB.out] at HC
  have q0 : w4.cell? ⟨w.heap.size, 0, none⟩ = some (.slice ha hl hc) := cell_of_row _ _ 0 _ _ _ RC1.out
  have q1 : w4.cell? ⟨w.heap.size, 1, none⟩ = some (.slice sa sl sc) := cell_of_row _ _ 1 _ _ _ RC1.out
  have q2 : w4.cell? ⟨w3.heap.size, 0, none⟩ = some (.slice ha n hc) := cell_of_row _ _ 0 _ _ _ RL1.out
  have q3 : w4.cell? ⟨w3.heap.size, 1, none⟩ = some (.slice sa sl sc) := cell_of_row _ _ 1 _ _ _ RL1.out
  go_wp2_with fail
  refine HC.out.mono ?_
  rintro e w5 ⟨rfl, hBn⟩
  have RC2 := Lib.hid ((hBn.block w.heap.size hwl1).trans RC1.out)
  have RL2 := Lib.hid ((hBn.block w3.heap.size hys1).trans RL1.out)
  have YB2 := Lib.hid (YB1.out.trans (hBn.mono YB1.out.size))
  have hys2 : w3.heap.size < w5.heap.size := Nat.lt_of_lt_of_le hys1 hBn.size
  have hwl2 : w.heap.size < w5.heap.size := Nat.lt_of_lt_of_le hwl1 hBn.size
  clear q0 q1 q2 q3 RC1 RL1 YB1 hys1 hwl1 hBn HC
  have HC := Lib.hid (season_yes ha hl hc sa sl sc H S x HCAL.out y m d HDT.out w5 ((HH.out.next YB2.out (Nat.le_refl _) (Nat.le_refl _)).mono YB2.out.size) ((HS.out.next YB2.out (Nat.le_refl _) (Nat.le_refl _)).mono YB2.out.size) (HT.out.next YB2.out) HLM.out SLM.out)
  have r0 : w5.cell? ⟨w.heap.size, 0, none⟩ = some (.slice ha hl hc) := cell_of_row _ _ 0 _ _ _ RC2.out
  have r1 : w5.cell? ⟨w.heap.size, 1, none⟩ = some (.slice sa sl sc) := cell_of_row _ _ 1 _ _ _ RC2.out
  have r2 : w5.cell? ⟨w3.heap.size, 0, none⟩ = some (.slice ha n hc) := cell_of_row _ _ 0 _ _ _ RL2.out
  have r3 : w5.cell? ⟨w3.heap.size, 1, none⟩ = some (.slice sa sl sc) := cell_of_row _ _ 1 _ _ _ RL2.out
  go_wp2_with fail
  refine HC.out.mono ?_
  rintro e w6 ⟨⟨s1, hs1, rfl⟩, hBn⟩
  have RC3 := Lib.hid ((hBn.block w.heap.size hwl2).trans RC2.out)
  have RL3 := Lib.hid ((hBn.block w3.heap.size hys2).trans RL2.out)
  have YB3 := Lib.hid (YB2.out.trans (hBn.mono YB2.out.size))
  have hys3 : w3.heap.size < w6.heap.size := Nat.lt_of_lt_of_le hys2 hBn.size
  have hwl3 : w.heap.size < w6.heap.size := Nat.lt_of_lt_of_le hwl2 hBn.size
  have HS1 := Lib.hid hs1
  clear hs1
  clear r0 r1 r2 r3 RC2 RL2 YB2 hys2 hwl2 hBn HC
  have HC := Lib.hid (season_yes ha n hc sa sl sc H S x (cal_less HCAL.out hn) y m d HDT.out w6 (hos_less ((HH.out.next YB3.out (Nat.le_refl _) (Nat.le_refl _)).mono YB3.out.size) hn) ((HS.out.next YB3.out (Nat.le_refl _) (Nat.le_refl _)).mono YB3.out.size) (HT.out.next YB3.out) (Nat.le_trans hn HLM.out) SLM.out)
  have s0 : w6.cell? ⟨w.heap.size, 0, none⟩ = some (.slice ha hl hc) := cell_of_row _ _ 0 _ _ _ RC3.out
  have s1 : w6.cell? ⟨w.heap.size, 1, none⟩ = some (.slice sa sl sc) := cell_of_row _ _ 1 _ _ _ RC3.out
  have s2 : w6.cell? ⟨w3.heap.size, 0, none⟩ = some (.slice ha n hc) := cell_of_row _ _ 0 _ _ _ RL3.out
  have s3 : w6.cell? ⟨w3.heap.size, 1, none⟩ = some (.slice sa sl sc) := cell_of_row _ _ 1 _ _ _ RL3.out
  go_wp2_with fail
  refine HC.out.mono ?_
  rintro e w7 ⟨⟨s2, hs2, rfl⟩, hBn⟩
  have RC4 := Lib.hid ((hBn.block w.heap.size hwl3).trans RC3.out)
  have RL4 := Lib.hid ((hBn.block w3.heap.size hys3).trans RL3.out)
  have YB4 := Lib.hid (YB3.out.trans (hBn.mono YB3.out.size))
  have hys4 : w3.heap.size < w7.heap.size := Nat.lt_of_lt_of_le hys3 hBn.size
  have hwl4 : w.heap.size < w7.heap.size := Nat.lt_of_lt_of_le hwl3 hBn.size
  have hss := SeaIs.unique HCAL.out.2.2.2.1 HCAL.out.2.2.2.2 HS1.out hs2
  subst hss
  clear hs2
  clear s0 s1 s2 s3 RC3 RL3 YB3 hys3 hwl3 hBn HC
  have HC := Lib.hid (is_yes ha hl hc sa sl sc H S x HCAL.out y m d HDT.out w7 ((HH.out.next YB4.out (Nat.le_refl _) (Nat.le_refl _)).mono YB4.out.size) ((HS.out.next YB4.out (Nat.le_refl _) (Nat.le_refl _)).mono YB4.out.size) (HT.out.next YB4.out) HLM.out SLM.out)
  rw [HFA.out] at HC
  have t0 : w7.cell? ⟨w.heap.size, 0, none⟩ = some (.slice ha hl hc) := cell_of_row _ _ 0 _ _ _ RC4.out
  have t1 : w7.cell? ⟨w.heap.size, 1, none⟩ = some (.slice sa sl sc) := cell_of_row _ _ 1 _ _ _ RC4.out
  have t2 : w7.cell? ⟨w3.heap.size, 0, none⟩ = some (.slice ha n hc) := cell_of_row _ _ 0 _ _ _ RL4.out
  have t3 : w7.cell? ⟨w3.heap.size, 1, none⟩ = some (.slice sa sl sc) := cell_of_row _ _ 1 _ _ _ RL4.out
  have hff := HFF.out
  have hcases := HCA.out
  have hk := HKK.out
  clear HFF HCA HKK
  rcases hcases with ⟨rfl, hw⟩ | ⟨rfl, hw⟩ | ⟨rfl, v, ⟨g6, g7⟩, hw⟩
  all_goals
    rcases hff with ⟨rfl, rfl⟩ | ⟨rfl, rfl⟩ | ⟨rfl, rfl⟩
  all_goals
    obtain ⟨hka, hkb⟩ := hk
    simp [kindB] at hka hkb
    subst hka hkb
    go_wp2_with (first
      | (go_at_call 30; refine (hw _).mono ?_; rintro e w8 ⟨rfl, rfl⟩)
      | (go_at_call 13; refine HC.out.mono ?_; rintro e w9 ⟨rfl, hBn⟩; have YB5 := Lib.hid (YB4.out.trans (hBn.mono YB4.out.size)); clear hBn))
    go_ret
    exact ⟨rfl, YB5.out⟩
theorem walk_one (ha : Option Addr) (hl hc : Nat) (sa : Option Addr) (sl sc : Nat) (H : Nat → Ho) (S : Nat → Se) (stay x : Int) (w : World) (hT : Tabs w)
    (h0 : (hl ≤ hc ∧ hc ≤ maxLen) ∧ (sl ≤ sc ∧ sc ≤ maxLen) ∧ HosAt w.heap.size w ha hl H ∧ SeasAt w.heap.size w sa sl S) (_h1 : (Lit.int .i64 stay).wf = true) (_h2 : (Lit.int .i64 x).wf = true) :
    Calls Tryd.prog 7 #[calV ha hl hc sa sl sc, .int .i64 stay, .int .i64 x] w fun e w' => e = .returned (.bool true) ∧ Below w.heap.size w w' := by
  obtain ⟨⟨a1, a2⟩, ⟨a3, a4⟩, hH, hS⟩ := h0
  have hlm := Nat.le_trans a1 a2
  have slm := Nat.le_trans a3 a4
  by_cases hg : 120 < hl ∨ 30 < sl
  · exact oneW_great ha hl hc sa sl sc H S stay x a1 hg w hH hS hT hlm slm
  · by_cases hcal : CalIs H hl S sl
    · by_cases hd : 0 ≤ x ∧ x ≤ 2932896
      · obtain ⟨y, m, d, hdt⟩ := date_exists x hd.1 hd.2
        exact oneW_yes ha hl hc sa sl sc H S stay x a1 hg hcal y m d hdt w hH hS hT hlm slm
      · exact oneW_no ha hl hc sa sl sc H S stay x a1 hg hcal hd w hH hS hT hlm slm
    · exact oneW_bad ha hl hc sa sl sc H S stay x a1 hg hcal w hH hS hT hlm slm
end Go.Proofs.YtgedcfgmfhlkdaaDoor
