/- The statement RatesNames, walked. -/
import Derived.Test.YthlpigffjbhmoaaDoorMBackM
set_option linter.unusedVariables false
set_option linter.unusedSimpArgs false
namespace Go.Proofs.YthlpigffjbhmoaaDoor
open Go.RowKit Go.Shelf
theorem pr_one {W : World} {b : Nat} {p : Int} (h : W.heap[b]? = some (.cells #[.int .i64 p] 2 (0, 0))) : PrAt W.heap.size W (some ⟨b, 0, none⟩) [p] := fun i q hq => by
  have l := (Array.getElem?_eq_some_iff.1 h).1
  match i, hq with
  | 0, hq => cases hq; exact ⟨b, 0, rfl, l, cell_of_row _ _ 0 _ _ _ h⟩
  | i + 1, hq => simp at hq
theorem pr_two {W : World} {b : Nat} {p q : Int} (h : W.heap[b]? = some (.cells #[.int .i64 p, .int .i64 q] 2 (0, 0))) : PrAt W.heap.size W (some ⟨b, 0, none⟩) [p, q] := fun i r hr => by
  have l := (Array.getElem?_eq_some_iff.1 h).1
  match i, hr with
  | 0, hr => cases hr; exact ⟨b, 0, rfl, l, cell_of_row _ _ 0 _ _ _ h⟩
  | 1, hr => cases hr; exact ⟨b, 0, rfl, l, cell_of_row _ _ 1 _ _ _ h⟩
  | i + 2, hr => simp at hr
theorem one_at {W : World} {b m c : Nat} {f : Int} {pa : Option Addr} {ps : List Int} (h : W.heap[b]? = some (.cells #[.int .i64 f, .slice pa m c] 42 (0, 0))) (hm : ps.length = m) (hc : m ≤ c ∧ c ≤ maxLen) (hp : PrAt W.heap.size W pa ps) : VesAt W.heap.size W (some ⟨b, 0, none⟩) [⟨f, ps⟩] := fun i v hv => by
  have l := (Array.getElem?_eq_some_iff.1 h).1
  subst hm
  match i, hv with
  | 0, hv => cases hv; exact ⟨b, 0, pa, c, rfl, l, cell_of_row _ _ 0 _ _ _ h, cell_of_row _ _ 1 _ _ _ h, hc, hp⟩
  | i + 1, hv => simp at hv
theorem one_le : 1 ≤ 1 ∧ 1 ≤ maxLen := ⟨Nat.le_refl _, by unfold maxLen; omega⟩
/-- Check of a table of one version with one price, just made. -/
theorem check_made (p : Int) (er : Int) (he : tErr [⟨0, [p]⟩] = er) (W : World) : Calls Tryd.prog 18 #[.slice (some ⟨W.heap.size + 1, 0, none⟩) 1 1] ((W.alloc (.cells #[.int .i64 p] 2)).alloc (.cells #[.int .i64 0, .slice (some ⟨W.heap.size, 0, none⟩) 1 1] 42)) fun e w' => e = .returned (.int .i64 er) ∧ Below W.heap.size W w' := by
  have h0 := heap_old (heap_alloc_new W (.cells #[.int .i64 p] 2)) (.cells #[.int .i64 0, .slice (some ⟨W.heap.size, 0, none⟩) 1 1] 42)
  have h1 := heap_alloc_new (W.alloc (.cells #[.int .i64 p] 2)) (.cells #[.int .i64 0, .slice (some ⟨W.heap.size, 0, none⟩) 1 1] 42)
  rw [World.size_alloc] at h1
  have hb := ((Below.refl _ W).alloc (Nat.le_refl _) (.cells #[.int .i64 p] 2)).alloc (by simp) (.cells #[.int .i64 0, .slice (some ⟨W.heap.size, 0, none⟩) 1 1] 42)
  have := check_any (some ⟨W.heap.size + 1, 0, none⟩) 1 1 [⟨0, [p]⟩] rfl _ (one_at h1 rfl one_le (pr_one h0)) one_le
  rw [he] at this
  exact this.mono fun e w' h => ⟨h.1, hb.trans (h.2.mono hb.size)⟩
theorem check_none (W : World) : Calls Tryd.prog 18 #[.slice (some ⟨W.heap.size, 0, none⟩) 1 1] (W.alloc (.cells #[.int .i64 1, .slice none 0 0] 42)) fun e w' => e = .returned (.int .i64 100) ∧ Below W.heap.size W w' := by
  have h1 := heap_alloc_new W (.cells #[.int .i64 1, .slice none 0 0] 42)
  have hb := (Below.refl _ W).alloc (Nat.le_refl _) (.cells #[.int .i64 1, .slice none 0 0] 42)
  have := check_any (some ⟨W.heap.size, 0, none⟩) 1 1 [⟨1, []⟩] rfl _ (one_at h1 rfl ⟨Nat.le_refl _, Nat.zero_le _⟩ PrAt.nil) one_le
  rw [tErr_no (by decide +kernel)] at this
  exact this.mono fun e w' h => ⟨h.1, hb.trans (h.2.mono hb.size)⟩
def badText : List UInt8 := [49, 48, 48, 32, 53, 32, 55, 10, 50, 48, 48, 32, 54, 10]
theorem few_head : textL [⟨100, [5, 7]⟩] = [49, 48, 48, 32, 53, 32, 55, 10] := by
  have h5 : Lib.itoa 5 = [53] := it_one (u := 5) (by omega)
  have h7 : Lib.itoa 7 = [55] := it_one (u := 7) (by omega)
  simp [textL, lineL, bodyL, pricesL, it_100, h5, h7]
theorem short_line : lineL ⟨200, [6]⟩ = [50, 48, 48, 32, 54, 10] := by
  have h6 : Lib.itoa 6 = [54] := it_one (u := 6) (by omega)
  simp [lineL, bodyL, pricesL, it_200, h6]
theorem bad_is : ParseIs badText [] 2 100 := by
  refine .inr ⟨rfl, rfl, [⟨100, [5, 7]⟩], [50, 48, 48, 32, 54, 10], by decide +kernel, by rw [few_head]; rfl, by simp, rfl, ?_⟩
  have := no_line (r := [⟨100, [5, 7]⟩]) (ln := [50, 48, 48, 32, 54, 10]) (rest := []) (.inl ⟨[50, 48, 48, 32, 54], rfl, by decide⟩) (fun v hv e => by
    rw [← short_line] at e
    obtain ⟨h, _⟩ := line_split (u := ⟨200, [6]⟩) (v := v) (a := []) (b := []) ⟨by show I64 200; unfold I64; omega, fun p hp => by rw [List.mem_singleton.1 hp]; unfold I64; omega⟩ (ver_64 hv.2.1) (by rw [e])
    rw [← h] at hv
    exact absurd hv (by decide +kernel))
  simpa using this
theorem parse_bad_text (W : World) (hT : TabsD W) : Calls Tryd.prog 11 #[.string ⟨#[49, 48, 48, 32, 53, 32, 55, 10, 50, 48, 48, 32, 54, 10]⟩] W fun e w' => (∃ ya yc, e = .returned (.tuple #[.slice ya 0 yc, .int .i64 2, .int .i64 100])) ∧ Below W.heap.size W w' := by
  refine (parse_any badText (by decide) W hT).mono ?_
  rintro e w' ⟨⟨r, ya, yc, m, er, rfl, hv, hc, hp⟩, hB'⟩
  obtain ⟨rfl, rfl, rfl⟩ := hp.unique bad_is
  exact ⟨⟨ya, yc, rfl⟩, hB'⟩
def moreL : List Ve := [⟨100, [1, 2]⟩, ⟨200, [6, 8]⟩]
/-- With of the chapter's table and a version just made. -/
theorem with_two (b : Nat) (W : World) (h : VesAt W.heap.size W (some ⟨b, 0, none⟩) fewL) : Calls Tryd.prog 19 #[.slice (some ⟨b, 0, none⟩) 2 2, verV 100 (some ⟨W.heap.size, 0, none⟩) 2 2] (W.alloc (.cells #[.int .i64 1, .int .i64 2] 2)) fun e w' => (∃ xa xc, e = .returned (.tuple #[.slice xa 2 xc, .int .i64 0]) ∧ VesAt w'.heap.size w' xa moreL) ∧ Below W.heap.size W w' := by
  have h0 := heap_alloc_new W (.cells #[.int .i64 1, .int .i64 2] 2)
  have hb := (Below.refl _ W).alloc (Nat.le_refl _) (.cells #[.int .i64 1, .int .i64 2] 2)
  refine (withO_any (some ⟨b, 0, none⟩) 2 2 fewL rfl 100 (some ⟨W.heap.size, 0, none⟩) 2 2 [1, 2] rfl _ (h.grow hb) (pr_two h0) two_le two_le).mono ?_
  rintro e w' ⟨hw, hB⟩
  unfold WithO at hw
  rw [show wT fewL ⟨100, [1, 2]⟩ = moreL by decide +kernel, show wG fewL ⟨100, [1, 2]⟩ = 0 by decide +kernel] at hw
  obtain ⟨xa, xc, rfl, hv, _⟩ := hw
  exact ⟨⟨xa, xc, rfl, hv⟩, hb.trans (hB.mono hb.size)⟩
theorem with_bad (b : Nat) (W : World) (h : VesAt W.heap.size W (some ⟨b, 0, none⟩) fewL) : Calls Tryd.prog 19 #[.slice (some ⟨b, 0, none⟩) 2 2, verV 300 (some ⟨W.heap.size, 0, none⟩) 1 1] (W.alloc (.cells #[.int .i64 1] 2)) fun e w' => (∃ xa xc, e = .returned (.tuple #[.slice xa 0 xc, .int .i64 100])) ∧ Below W.heap.size W w' := by
  have h0 := heap_alloc_new W (.cells #[.int .i64 1] 2)
  have hb := (Below.refl _ W).alloc (Nat.le_refl _) (.cells #[.int .i64 1] 2)
  refine (withO_any (some ⟨b, 0, none⟩) 2 2 fewL rfl 300 (some ⟨W.heap.size, 0, none⟩) 1 1 [1] rfl _ (h.grow hb) (pr_one h0) two_le one_le).mono ?_
  rintro e w' ⟨hw, hB⟩
  unfold WithO at hw
  rw [show wT fewL ⟨300, [1]⟩ = [] by decide +kernel, show wG fewL ⟨300, [1]⟩ = 100 by decide +kernel] at hw
  obtain ⟨xa, xc, rfl, _⟩ := hw
  exact ⟨⟨xa, xc, rfl⟩, hb.trans (hB.mono hb.size)⟩
set_option maxRecDepth 100000 in
set_option maxHeartbeats 8000000 in
theorem namesW (w : World) (hT : TabsD w) : Calls Tryd.prog 4 #[] w fun e w' => e = .returned (.bool true) ∧ Below w.heap.size w w' := by
  have HF := Lib.hid (fun W : World => few_any W)
  have HAL := Lib.hid (fun (W : World) (hB : Below w.heap.size w W) => alive_any W (hT.pow.next hB (Nat.le_refl _)))
  have HPT := Lib.hid (fun (W : World) (hB : Below w.heap.size w W) => parse_bad_text W (hT.next hB (Nat.le_refl _)))
  have HP1 := Lib.hid (fun (b : Nat) (W : World) (h : VesAt W.heap.size W (some ⟨b, 0, none⟩) fewL) => (show Calls Tryd.prog 15 #[.slice (some ⟨b, 0, none⟩) 2 2, .int .i64 99, .int .i64 0] W fun e w' => e = .returned (.tuple #[.int .i64 0, .bool false]) ∧ Below W.heap.size W w' by
    have := price_any (some ⟨b, 0, none⟩) 2 2 fewL rfl 99 0 W h two_le
    rwa [show priceO fewL 99 0 = none by decide +kernel, optV_none] at this
))
  have HP2 := Lib.hid (fun (b : Nat) (W : World) (h : VesAt W.heap.size W (some ⟨b, 0, none⟩) fewL) => (show Calls Tryd.prog 15 #[.slice (some ⟨b, 0, none⟩) 2 2, .int .i64 200, .int .i64 2] W fun e w' => e = .returned (.tuple #[.int .i64 0, .bool false]) ∧ Below W.heap.size W w' by
    have := price_any (some ⟨b, 0, none⟩) 2 2 fewL rfl 200 2 W h two_le
    rwa [show priceO fewL 200 2 = none by decide +kernel, optV_none] at this
))
  have HN1 := Lib.hid (fun (b : Nat) (W : World) (h : VesAt W.heap.size W (some ⟨b, 0, none⟩) fewL) => (show Calls Tryd.prog 20 #[.slice (some ⟨b, 0, none⟩) 2 2, .int .i64 100] W fun e w' => e = .returned (.tuple #[.int .i64 200, .bool true]) ∧ Below W.heap.size W w' by
    have := next_any (some ⟨b, 0, none⟩) 2 2 fewL rfl 100 W h two_le
    rwa [show nextO fewL 100 = some 200 by decide +kernel, optV_some] at this
))
  have HN2 := Lib.hid (fun (b : Nat) (W : World) (h : VesAt W.heap.size W (some ⟨b, 0, none⟩) fewL) => (show Calls Tryd.prog 20 #[.slice (some ⟨b, 0, none⟩) 2 2, .int .i64 200] W fun e w' => e = .returned (.tuple #[.int .i64 0, .bool false]) ∧ Below W.heap.size W w' by
    have := next_any (some ⟨b, 0, none⟩) 2 2 fewL rfl 200 W h two_le
    rwa [show nextO fewL 200 = none by decide +kernel, optV_none] at this
))
  have HSP := Lib.hid (fun (b : Nat) (W : World) (h : VesAt W.heap.size W (some ⟨b, 0, none⟩) fewL) => (show Calls Tryd.prog 17 #[.slice (some ⟨b, 0, none⟩) 2 2, .int .i64 100, .int .i64 300] W fun e w' => (∃ sa sc, e = .returned (.slice sa 1 sc) ∧ PrAt w'.heap.size w' sa [200]) ∧ Below W.heap.size W w' by
    have := spans_any (some ⟨b, 0, none⟩) 2 2 fewL rfl 100 300 W h two_le
    unfold SpansE at this
    rw [show spansL fewL 100 300 = [200] by decide +kernel] at this
    exact this.mono fun e w' hh => ⟨let ⟨sa, sc, h1, h2⟩ := hh.1; ⟨sa, sc, h1, h2.at⟩, hh.2⟩))
  have HC1 := Lib.hid (fun W => check_none W)
  have HC2 := Lib.hid (fun W => check_made (-1) 100 (tErr_no (by decide +kernel)) W)
  have HC3 := Lib.hid (fun W => check_made 1073741824 0 (tErr_yes (by decide +kernel)) W)
  have HC4 := Lib.hid (fun W => check_made 1073741825 100 (tErr_no (by decide +kernel)) W)
  have HW1 := Lib.hid (fun b W h => with_two b W h)
  have HW2 := Lib.hid (fun b W h => with_bad b W h)
  clear hT
  go_enter Tryd.func4, Tryd.ntmps4
  go_wp2_with fail
  refine (HF.out _).mono ?_
  rintro e w1 ⟨⟨b1, rfl, hv1⟩, hB⟩
  have HV := Lib.hid hv1
  clear hv1
  have HB1 := Lib.hid hB
  clear hB
  go_wp2_with fail
  refine (HP1.out b1 w1 HV.out).mono ?_
  rintro e w2 ⟨rfl, hB⟩
  clear HV HP1
  have HB2 := Lib.hid (HB1.out.trans (hB.mono HB1.out.size))
  clear hB HB1
  go_wp2_with fail
  refine (HF.out _).mono ?_
  rintro e w3 ⟨⟨b3, rfl, hv3⟩, hB⟩
  have HV := Lib.hid hv3
  clear hv3
  have HB3 := Lib.hid (HB2.out.trans (hB.mono HB2.out.size))
  clear hB HB2
  go_wp2_with fail
  refine (HP2.out b3 w3 HV.out).mono ?_
  rintro e w4 ⟨rfl, hB⟩
  clear HV HP2
  have HB4 := Lib.hid (HB3.out.trans (hB.mono HB3.out.size))
  clear hB HB3
  go_wp2_with fail
  refine (HPT.out w4 HB4.out).mono ?_
  rintro e w5 ⟨⟨ya, yc, rfl⟩, hB⟩
  clear HPT
  have HB5 := Lib.hid (HB4.out.trans (hB.mono HB4.out.size))
  clear hB HB4
  go_wp2_with fail
  refine (HF.out _).mono ?_
  rintro e w6 ⟨⟨b6, rfl, hv6⟩, hB⟩
  have HV := Lib.hid hv6
  clear hv6
  have HB6 := Lib.hid (HB5.out.trans (hB.mono HB5.out.size))
  clear hB HB5
  go_wp2_with fail
  refine (HSP.out b6 w6 HV.out).mono ?_
  rintro e w7 ⟨⟨sa, sc, rfl, hs⟩, hB⟩
  have HS7 := Lib.hid hs
  clear hs
  clear HV HSP
  have HB7 := Lib.hid (HB6.out.trans (hB.mono HB6.out.size))
  clear hB HB6
  go_wp2_with fail
  refine (HC1.out w7).mono ?_
  rintro e w8 ⟨rfl, hB⟩
  clear HC1
  have HS8 := Lib.hid (HS7.out.grow hB)
  clear HS7
  have HB8 := Lib.hid (HB7.out.trans (hB.mono HB7.out.size))
  clear hB HB7
  go_wp2_with fail
  refine (HC2.out w8).mono ?_
  rintro e w9 ⟨rfl, hB⟩
  clear HC2
  have HS9 := Lib.hid (HS8.out.grow hB)
  clear HS8
  have HB9 := Lib.hid (HB8.out.trans (hB.mono HB8.out.size))
  clear hB HB8
  go_wp2_with fail
  refine (HC3.out w9).mono ?_
  rintro e w10 ⟨rfl, hB⟩
  clear HC3
  have HS10 := Lib.hid (HS9.out.grow hB)
  clear HS9
  have HB10 := Lib.hid (HB9.out.trans (hB.mono HB9.out.size))
  clear hB HB9
  go_wp2_with fail
  refine (HC4.out w10).mono ?_
  rintro e w11 ⟨rfl, hB⟩
  clear HC4
  have HS11 := Lib.hid (HS10.out.grow hB)
  clear HS10
  have HB11 := Lib.hid (HB10.out.trans (hB.mono HB10.out.size))
  clear hB HB10
  go_wp2_with fail
  refine (HF.out _).mono ?_
  rintro e w12 ⟨⟨b12, rfl, hv12⟩, hB⟩
  have HV := Lib.hid hv12
  clear hv12
  have HS12 := Lib.hid (HS11.out.grow hB)
  clear HS11
  have HB12 := Lib.hid (HB11.out.trans (hB.mono HB11.out.size))
  clear hB HB11
  go_wp2_with fail
  refine (HW1.out b12 w12 HV.out).mono ?_
  rintro e w13 ⟨⟨xa, xc, rfl, hx⟩, hB⟩
  have HX13 := Lib.hid hx
  clear hx
  clear HV HW1
  have HS13 := Lib.hid (HS12.out.grow hB)
  clear HS12
  have HB13 := Lib.hid (HB12.out.trans (hB.mono HB12.out.size))
  clear hB HB12
  go_wp2_with fail
  refine (HF.out _).mono ?_
  rintro e w14 ⟨⟨b14, rfl, hv14⟩, hB⟩
  have HV := Lib.hid hv14
  clear hv14
  have HS14 := Lib.hid (HS13.out.grow hB)
  clear HS13
  have HX14 := Lib.hid (HX13.out.grow hB)
  clear HX13
  have HB14 := Lib.hid (HB13.out.trans (hB.mono HB13.out.size))
  clear hB HB13
  go_wp2_with fail
  refine (HW2.out b14 w14 HV.out).mono ?_
  rintro e w15 ⟨⟨ua, uc, rfl⟩, hB⟩
  clear HV HW2
  have HS15 := Lib.hid (HS14.out.grow hB)
  clear HS14
  have HX15 := Lib.hid (HX14.out.grow hB)
  clear HX14
  have HB15 := Lib.hid (HB14.out.trans (hB.mono HB14.out.size))
  clear hB HB14
  go_wp2_with fail
  refine (HF.out _).mono ?_
  rintro e w16 ⟨⟨b16, rfl, hv16⟩, hB⟩
  have HV := Lib.hid hv16
  clear hv16
  have HS16 := Lib.hid (HS15.out.grow hB)
  clear HS15
  have HX16 := Lib.hid (HX15.out.grow hB)
  clear HX15
  have HB16 := Lib.hid (HB15.out.trans (hB.mono HB15.out.size))
  clear hB HB15
  go_wp2_with fail
  refine (HN1.out b16 w16 HV.out).mono ?_
  rintro e w17 ⟨rfl, hB⟩
  clear HV HN1
  have HS17 := Lib.hid (HS16.out.grow hB)
  clear HS16
  have HX17 := Lib.hid (HX16.out.grow hB)
  clear HX16
  have HB17 := Lib.hid (HB16.out.trans (hB.mono HB16.out.size))
  clear hB HB16
  go_wp2_with fail
  refine (HF.out _).mono ?_
  rintro e w18 ⟨⟨b18, rfl, hv18⟩, hB⟩
  have HV := Lib.hid hv18
  clear hv18
  have HS18 := Lib.hid (HS17.out.grow hB)
  clear HS17
  have HX18 := Lib.hid (HX17.out.grow hB)
  clear HX17
  have HB18 := Lib.hid (HB17.out.trans (hB.mono HB17.out.size))
  clear hB HB17
  go_wp2_with fail
  refine (HN2.out b18 w18 HV.out).mono ?_
  rintro e w19 ⟨rfl, hB⟩
  clear HV HN2
  have HS19 := Lib.hid (HS18.out.grow hB)
  clear HS18
  have HX19 := Lib.hid (HX18.out.grow hB)
  clear HX18
  have HB19 := Lib.hid (HB18.out.trans (hB.mono HB18.out.size))
  clear hB HB18
  go_wp2_with fail
  refine (HAL.out w19 HB19.out).mono ?_
  rintro e w20 ⟨rfl, hB⟩
  clear HAL
  have HS20 := Lib.hid (HS19.out.grow hB)
  clear HS19
  have HX20 := Lib.hid (HX19.out.grow hB)
  clear HX19
  have HB20 := Lib.hid (HB19.out.trans (hB.mono HB19.out.size))
  clear hB HB19
  obtain ⟨sb, so, es, _, s0⟩ := HS20.out 0 200 rfl
  obtain ⟨xb, xo, pa, pc, ex, _, x0, x1, _, hup⟩ := HX20.out 0 ⟨100, [1, 2]⟩ rfl
  obtain ⟨pb, po, ep, _, p1⟩ := hup 1 2 rfl
  subst es
  subst ex
  subst ep
  simp only [Nat.zero_mul, Nat.add_zero] at s0 x0 x1
  have x1' : w20.cell? ⟨xb, xo + 1, none⟩ = some (.slice (some ⟨pb, po, none⟩) 2 pc) := x1
  clear x0 x1 hup
  go_wp2
  go_ret
  exact ⟨rfl, HB20.out⟩
end Go.Proofs.YthlpigffjbhmoaaDoor
