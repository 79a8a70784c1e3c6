/- The chapter's table; the statements' few and alive. -/
import Derived.Test.YthlpigffjbhmoaaDoorEText
import Derived.Test.YthlpigffjbhmoaaDoorVGets
set_option linter.unusedVariables false
set_option linter.unusedSimpArgs false
namespace Go.Proofs.YthlpigffjbhmoaaDoor
open Go.RowKit Go.Shelf
def fewL : List Ve := [⟨100, [5, 7]⟩, ⟨200, [6, 8]⟩]
theorem few_tab : TabMay fewL := by decide +kernel
theorem few_p1 : priceO fewL 150 1 = some 7 := by decide +kernel
theorem few_p2 : priceO fewL 200 0 = some 6 := by decide +kernel
theorem dec_one {u : Nat} (h : u < 10) : Lib.decDigits u = [UInt8.ofNat (48 + u)] := by rw [Lib.decDigits, dif_pos h]
theorem dec_more {u : Nat} (h : ¬ u < 10) : Lib.decDigits u = Lib.decDigits (u / 10) ++ [UInt8.ofNat (48 + u % 10)] := by rw [Lib.decDigits, dif_neg h]
theorem it_one {u : Nat} (h : u < 10) : Lib.itoa (u : Int) = [UInt8.ofNat (48 + u)] := by rw [Lib.itoa_nonneg, dec_one h]
theorem it_100 : Lib.itoa 100 = [49, 48, 48] := by
  rw [show (100 : Int) = ((100 : Nat) : Int) from rfl, Lib.itoa_nonneg, dec_more (by omega), dec_more (by omega), dec_one (by omega)]
  rfl
theorem it_200 : Lib.itoa 200 = [50, 48, 48] := by
  rw [show (200 : Int) = ((200 : Nat) : Int) from rfl, Lib.itoa_nonneg, dec_more (by omega), dec_more (by omega), dec_one (by omega)]
  rfl
theorem few_text : textL fewL = [49, 48, 48, 32, 53, 32, 55, 10, 50, 48, 48, 32, 54, 32, 56, 10] := by
  have h5 : Lib.itoa 5 = [53] := it_one (u := 5) (by omega)
  have h6 : Lib.itoa 6 = [54] := it_one (u := 6) (by omega)
  have h7 : Lib.itoa 7 = [55] := it_one (u := 7) (by omega)
  have h8 : Lib.itoa 8 = [56] := it_one (u := 8) (by omega)
  simp [textL, fewL, lineL, bodyL, pricesL, it_100, it_200, h5, h6, h7, h8]
abbrev fewC (b : Nat) : Array Value := #[.int .i64 100, .slice (some ⟨b, 0, none⟩) 2 2, .int .i64 200, .slice (some ⟨b + 1, 0, none⟩) 2 2]
theorem few_at {W : World} {b : Nat} (h0 : W.heap[b]? = some (.cells #[.int .i64 5, .int .i64 7] 2 (0, 0))) (h1 : W.heap[b + 1]? = some (.cells #[.int .i64 6, .int .i64 8] 2 (0, 0))) (h2 : W.heap[b + 2]? = some (.cells (fewC b) 42 (0, 0))) : VesAt W.heap.size W (some ⟨b + 2, 0, none⟩) fewL := by
  have l0 := (Array.getElem?_eq_some_iff.1 h0).1
  have l1 := (Array.getElem?_eq_some_iff.1 h1).1
  have l2 := (Array.getElem?_eq_some_iff.1 h2).1
  intro i v hv
  match i, hv with
  | 0, hv =>
    cases hv
    refine ⟨b + 2, 0, some ⟨b, 0, none⟩, 2, rfl, l2, cell_of_row _ _ 0 _ _ _ h2, cell_of_row _ _ 1 _ _ _ h2, ⟨Nat.le_refl _, by unfold maxLen; omega⟩, fun j p hp => ?_⟩
    match j, hp with
    | 0, hp => cases hp; exact ⟨b, 0, rfl, l0, cell_of_row _ _ 0 _ _ _ h0⟩
    | 1, hp => cases hp; exact ⟨b, 0, rfl, l0, cell_of_row _ _ 1 _ _ _ h0⟩
    | j + 2, hp => simp at hp
  | 1, hv =>
    cases hv
    refine ⟨b + 2, 0, some ⟨b + 1, 0, none⟩, 2, rfl, l2, cell_of_row _ _ 2 _ _ _ h2, cell_of_row _ _ 3 _ _ _ h2, ⟨Nat.le_refl _, by unfold maxLen; omega⟩, fun j p hp => ?_⟩
    match j, hp with
    | 0, hp => cases hp; exact ⟨b + 1, 0, rfl, l1, cell_of_row _ _ 0 _ _ _ h1⟩
    | 1, hp => cases hp; exact ⟨b + 1, 0, rfl, l1, cell_of_row _ _ 1 _ _ _ h1⟩
    | j + 2, hp => simp at hp
  | i + 2, hv => simp [fewL] at hv
set_option maxRecDepth 100000 in
set_option maxHeartbeats 2000000 in
theorem few_any (w : World) : Calls Tryd.prog 16 #[] w fun e w' => (∃ b, e = .returned (.slice (some ⟨b, 0, none⟩) 2 2) ∧ VesAt w'.heap.size w' (some ⟨b, 0, none⟩) fewL) ∧ Below w.heap.size w w' := by
  have hs1 : (w.alloc (.cells #[.int .i64 5, .int .i64 7] 2)).heap.size = w.heap.size + 1 := World.size_alloc _ _
  have hs2 : ((w.alloc (.cells #[.int .i64 5, .int .i64 7] 2)).alloc (.cells #[.int .i64 6, .int .i64 8] 2)).heap.size = w.heap.size + 2 := by rw [World.size_alloc, hs1]
  have hb := (((Below.refl _ w).alloc (Nat.le_refl _) (.cells #[.int .i64 5, .int .i64 7] 2)).alloc (by rw [hs1]; omega) (.cells #[.int .i64 6, .int .i64 8] 2)).alloc (by rw [hs2]; omega) (.cells (fewC w.heap.size) 42)
  have h0 := heap_old (heap_old (heap_alloc_new w (.cells #[.int .i64 5, .int .i64 7] 2)) (.cells #[.int .i64 6, .int .i64 8] 2)) (.cells (fewC w.heap.size) 42)
  have h1 := heap_old (heap_alloc_new (w.alloc (.cells #[.int .i64 5, .int .i64 7] 2)) (.cells #[.int .i64 6, .int .i64 8] 2)) (.cells (fewC w.heap.size) 42)
  have h2 := heap_alloc_new ((w.alloc (.cells #[.int .i64 5, .int .i64 7] 2)).alloc (.cells #[.int .i64 6, .int .i64 8] 2)) (.cells (fewC w.heap.size) 42)
  rw [hs1] at h1
  rw [hs2] at h2
  have HV := Lib.hid (few_at h0 h1 h2)
  have HB := Lib.hid hb
  clear hb h0 h1 h2 hs1 hs2
  go_enter Tryd.func16, Tryd.ntmps16
  go_wp2
  go_ret
  exact ⟨⟨w.heap.size + 2, rfl, HV.out⟩, HB.out⟩
theorem two_le : 2 ≤ 2 ∧ 2 ≤ maxLen := ⟨Nat.le_refl _, by unfold maxLen; omega⟩
set_option maxRecDepth 100000 in
set_option maxHeartbeats 2000000 in
theorem alive_any (w : World) (hT : Pow w) : Calls Tryd.prog 21 #[] w fun e w' => e = .returned (.bool true) ∧ Below w.heap.size w w' := by
  have HF := Lib.hid (fun W : World => few_any W)
  have HP1 := Lib.hid (fun (b : Nat) (W : World) (h : VesAt W.heap.size W (some ⟨b, 0, none⟩) fewL) => (show Calls Tryd.prog 15 #[.slice (some ⟨b, 0, none⟩) 2 2, .int .i64 150, .int .i64 1] W fun e w' => e = .returned (.tuple #[.int .i64 7, .bool true]) ∧ Below W.heap.size W w' by
    have := price_any (some ⟨b, 0, none⟩) 2 2 fewL rfl 150 1 W h two_le
    rwa [few_p1] at this))
  have HP2 := Lib.hid (fun (b : Nat) (W : World) (h : VesAt W.heap.size W (some ⟨b, 0, none⟩) fewL) => (show Calls Tryd.prog 15 #[.slice (some ⟨b, 0, none⟩) 2 2, .int .i64 200, .int .i64 0] W fun e w' => e = .returned (.tuple #[.int .i64 6, .bool true]) ∧ Below W.heap.size W w' by
    have := price_any (some ⟨b, 0, none⟩) 2 2 fewL rfl 200 0 W h two_le
    rwa [few_p2] at this))
  have HTX := Lib.hid (fun (b : Nat) (W : World) (h : VesAt W.heap.size W (some ⟨b, 0, none⟩) fewL) (hB : Below w.heap.size w W) => (show Calls Tryd.prog 9 #[.slice (some ⟨b, 0, none⟩) 2 2] W fun e w' => e = .returned (.tuple #[.string ⟨#[49, 48, 48, 32, 53, 32, 55, 10, 50, 48, 48, 32, 54, 32, 56, 10]⟩, .int .i64 0]) ∧ Below W.heap.size W w' by
    have := text_yes (some ⟨b, 0, none⟩) 2 2 fewL rfl few_tab W h two_le (hT.next hB (Nat.le_refl _))
    rwa [few_text] at this))
  clear hT
  go_enter Tryd.func21, Tryd.ntmps21
  go_wp2_with fail
  refine (HF.out _).mono ?_
  rintro e w1 ⟨⟨b1, rfl, hv1⟩, hB1⟩
  have HV1 := Lib.hid hv1
  have HB1 := Lib.hid hB1
  clear hv1 hB1
  go_wp2_with fail
  refine (HP1.out b1 w1 HV1.out).mono ?_
  rintro e w2 ⟨rfl, hB2⟩
  have HB2 := Lib.hid (HB1.out.trans (hB2.mono HB1.out.size))
  clear hB2 HP1 HV1 HB1
  go_wp2_with fail
  refine (HF.out _).mono ?_
  rintro e w3 ⟨⟨b3, rfl, hv3⟩, hB3⟩
  have HV3 := Lib.hid hv3
  have HB3 := Lib.hid (HB2.out.trans (hB3.mono HB2.out.size))
  clear hv3 hB3 HB2
  go_wp2_with fail
  refine (HP2.out b3 w3 HV3.out).mono ?_
  rintro e w4 ⟨rfl, hB4⟩
  have HB4 := Lib.hid (HB3.out.trans (hB4.mono HB3.out.size))
  clear hB4 HP2 HV3 HB3
  go_wp2_with fail
  refine (HF.out _).mono ?_
  rintro e w5 ⟨⟨b5, rfl, hv5⟩, hB5⟩
  have HV5 := Lib.hid hv5
  have HB5 := Lib.hid (HB4.out.trans (hB5.mono HB4.out.size))
  clear hv5 hB5 HB4
  go_wp2_with fail
  refine (HTX.out b5 w5 HV5.out HB5.out).mono ?_
  rintro e w6 ⟨rfl, hB6⟩
  have HB6 := Lib.hid (HB5.out.trans (hB6.mono HB5.out.size))
  clear hB6 HTX HV5 HB5
  go_wp2
  go_ret
  exact ⟨rfl, HB6.out⟩
end Go.Proofs.YthlpigffjbhmoaaDoor
