/- The contracts of digits, Text and TextAt. -/
import Derived.Test.YtjlejpenegjbcaaDoorKShelf
import Derived.Test.YtjlejpenegjbcaaDoorKTime
import Derived.Lib.ItoaMem
import Derived.Lib.LaidTab
import Derived.Deep.RegionHeld3
set_option linter.unusedVariables false
set_option linter.unusedSimpArgs false
namespace Go.Proofs.YtjlejpenegjbcaaDoor
open Go.RowKit Go.Shelf
/-- The package's table, and the library's powers of ten. -/
def TabsM (w : World) : Prop := Tabs w ∧ ∃ T fr, w.heap[1]? = some (.cells (Lib.pow10Tab.map fun z => Value.int .u64 z).toArray T fr)
theorem TabsM.lt {w : World} : TabsM w → 1 < w.heap.size | ⟨_, _, _, h⟩ => (Array.getElem?_eq_some_iff.1 h).1
theorem TabsM.below {B : Nat} {w w' : World} (h : TabsM w) (hB : 1 < B) (hb : Below B w w') : TabsM w' := by
  obtain ⟨h1, T, fr, h2⟩ := h
  exact ⟨h1.below (by omega) hb, T, fr, (hb.block 1 hB).trans h2⟩
theorem TabsM.next {w w' : World} (h : TabsM w) (hb : Below w.heap.size w w') : TabsM w' := h.below h.lt hb
theorem TabsM.drew {w : World} (h : TabsM w) : TabsM w.drew := h
theorem TabsM.drewN {w : World} (h : TabsM w) (n : Nat) : TabsM (w.drewN n) := h
theorem gPow : Tryd.prog.globalNamed "internal/strconv.uint64pow10" = some 1 := by kernel_rfl
theorem TabsM.tab {w : World} : TabsM w → Lib.TabIs Tryd.prog w "internal/strconv.uint64pow10" .u64 Lib.pow10Tab
  | ⟨_, T, fr, h⟩ => by
    unfold Lib.TabIs World.var?
    simp only [gPow, Option.bind_some, h]
/-- Two digits; four. -/
def twoL (n : Int) : List Int := [48 + n / 10 % 10, 48 + n % 10]
def fourL (n : Int) : List Int := twoL (n / 100) ++ twoL (n % 100)
def dateL (y m d : Int) : List Int := fourL y ++ [45] ++ twoL m ++ [45] ++ twoL d
def momL (y m d h mi s : Int) : List Int := dateL y m d ++ [84] ++ twoL h ++ [58] ++ twoL mi ++ [58] ++ twoL s
theorem nums_of_u8 (l : List UInt8) : (⟨l.toArray⟩ : ByteArray) = strOfNums (l.map fun x => (x.toNat : Int)) := by
  simp [strOfNums, Function.comp_def]
theorem str_app (xs ys : List Int) : strOfNums xs ++ strOfNums ys = strOfNums (xs ++ ys) := by
  simp [strOfNums, ByteArray.ext_iff]
theorem u8_ofNat (k : Nat) (h : k < 256) : ((UInt8.ofNat k).toNat : Int) = k := by
  rw [UInt8.toNat_ofNat']; omega
theorem dec1 (n : Nat) (h : n < 10) : (⟨(Lib.decDigits n).toArray⟩ : ByteArray) = strOfNums [48 + (n : Int)] := by
  rw [Lib.decDigits_one h, nums_of_u8]
  simp only [List.map_cons, List.map_nil]
  rw [u8_ofNat _ (by omega)]; simp
theorem dec2 (n : Nat) (h1 : 10 ≤ n) (h2 : n < 100) : (⟨(Lib.decDigits n).toArray⟩ : ByteArray) = strOfNums (twoL n) := by
  rw [Lib.decDigits_two (by omega) h2, nums_of_u8]
  simp only [List.map_cons, List.map_nil]
  rw [u8_ofNat _ (by omega), u8_ofNat _ (by omega)]
  unfold twoL
  rw [show ((n : Int) / 10 % 10) = (n : Int) / 10 by omega]
  congr 2 <;> simp
theorem dec4 (n : Nat) (h1 : 1000 ≤ n) (h2 : n < 10000) : (⟨(Lib.decDigits n).toArray⟩ : ByteArray) = strOfNums (fourL n) := by
  rw [Lib.decDigits, dif_neg (by omega), Lib.decDigits, dif_neg (by omega), Lib.decDigits_two (by omega) (by omega), nums_of_u8]
  simp only [List.map_cons, List.map_nil, List.cons_append, List.nil_append]
  rw [u8_ofNat _ (by omega), u8_ofNat _ (by omega), u8_ofNat _ (by omega), u8_ofNat _ (by omega)]
  unfold fourL twoL
  simp only [List.cons_append, List.nil_append]
  congr 2
  · omega
  · congr 1
    · omega
    · congr 1
      · omega
      · congr 1; omega
theorem rep0 : (⟨(Lib.repeatL (⟨#[48]⟩ : ByteArray).data.toList 0).toArray⟩ : ByteArray) = strOfNums [] := rfl
theorem rep1 : (⟨(Lib.repeatL (⟨#[48]⟩ : ByteArray).data.toList 1).toArray⟩ : ByteArray) = strOfNums [48] := rfl
theorem below_growN (B : Nat) (w : World) (q : Nat) (os : Array Obj) (hB : B ≤ w.heap.size) : Below B w (Sort.grow (w.drewN q) os) :=
  ⟨rfl, rfl, rfl, by simp [Sort.grow], fun k hk => by
    show (w.heap ++ os)[k]? = w.heap[k]?
    rw [Array.getElem?_append_left (by omega)]⟩
theorem digits_two (n : Int) (h0 : 0 ≤ n) (h1 : n < 100) (w : World) :
    Calls Tryd.prog 41 #[.int .i64 n, .int .i64 2] w fun e w' => e = .returned (.string (strOfNums (twoL n))) ∧ Below w.heap.size w w' := by
  obtain ⟨k, rfl⟩ : ∃ k : Nat, n = k := ⟨n.toNat, by omega⟩
  have hi := fun X => itoa_small k (by omega) X
  by_cases hk : k < 10
  · rw [dec1 k hk] at hi
    have hs : (strOfNums [48 + (k : Int)]).size = 1 := by rw [strOfNums_size]; rfl
    have hr := fun X => repeat_any ⟨#[48]⟩ 1 X (by omega) (by decide)
    rw [rep1] at hr
    have ha : strOfNums [48] ++ strOfNums [48 + (k : Int)] = strOfNums (twoL k) := by
      rw [str_app]; unfold twoL
      rw [show (k : Int) / 10 % 10 = 0 by omega, show (k : Int) % 10 = k by omega]; rfl
    have hb : ¬ 9223372036854775807 < (strOfNums [48]).size + (strOfNums [48 + (k : Int)]).size := by rw [strOfNums_size, strOfNums_size]; simp
    have HI := Lib.hid hi
    have HR := Lib.hid hr
    clear hi hr
    go_enter Tryd.func41, Tryd.ntmps41
    go_wp2_with (first | (go_at_call 47; refine (HI.out _).mono ?_; rintro e w' ⟨rfl, rfl⟩) | (go_at_call 48; refine (HR.out _).mono ?_; rintro e w' ⟨rfl, hB⟩))
    go_ret
    exact ⟨rfl, hB⟩
  · rw [dec2 k (by omega) (by omega)] at hi
    have hs : (strOfNums (twoL k)).size = 2 := by rw [strOfNums_size]; rfl
    have hr := fun X => repeat_any ⟨#[48]⟩ 0 X (by omega) (by decide)
    rw [rep0] at hr
    have ha : strOfNums [] ++ strOfNums (twoL k) = strOfNums (twoL k) := by rw [str_app]; rfl
    have hb : ¬ 9223372036854775807 < (strOfNums []).size + (strOfNums (twoL k)).size := by rw [strOfNums_size, strOfNums_size]; simp [twoL]
    have HI := Lib.hid hi
    have HR := Lib.hid hr
    clear hi hr
    go_enter Tryd.func41, Tryd.ntmps41
    go_wp2_with (first | (go_at_call 47; refine (HI.out _).mono ?_; rintro e w' ⟨rfl, rfl⟩) | (go_at_call 48; refine (HR.out _).mono ?_; rintro e w' ⟨rfl, hB⟩))
    go_ret
    exact ⟨rfl, hB⟩
theorem digits_four (n : Int) (h0 : 1000 ≤ n) (h1 : n < 10000) (w : World) (hT : TabsM w) :
    Calls Tryd.prog 41 #[.int .i64 n, .int .i64 4] w fun e w' => e = .returned (.string (strOfNums (fourL n))) ∧ Below w.heap.size w w' := by
  obtain ⟨k, rfl⟩ : ∃ k : Nat, n = k := ⟨n.toNat, by omega⟩
  have hi : Calls Tryd.prog 47 #[.int .i64 k] w fun e w' => e = .returned (.string (strOfNums (fourL k))) ∧ Below w.heap.size w w' := by
    refine (itoa_any k (by omega) (by omega) w hT.tab).mono ?_
    rintro e w' ⟨rfl, q, os, rfl⟩
    rw [Lib.itoa_nonneg, dec4 k (by omega) (by omega)]
    exact ⟨rfl, below_growN _ _ _ _ (Nat.le_refl _)⟩
  have hs : (strOfNums (fourL k)).size = 4 := by rw [strOfNums_size]; rfl
  have hr := fun X => repeat_any ⟨#[48]⟩ 0 X (by omega) (by decide)
  rw [rep0] at hr
  have ha : strOfNums [] ++ strOfNums (fourL k) = strOfNums (fourL k) := by rw [str_app]; rfl
  have hb : ¬ 9223372036854775807 < (strOfNums []).size + (strOfNums (fourL k)).size := by rw [strOfNums_size, strOfNums_size]; simp [fourL, twoL]
  have HI := Lib.hid hi
  have HR := Lib.hid hr
  clear hi hr hT
  go_enter Tryd.func41, Tryd.ntmps41
  go_wp2_with fail
  refine HI.out.mono ?_
  rintro e w1 ⟨rfl, hB1⟩
  have HB1 := Lib.hid hB1
  clear hB1 HI
  go_wp2_with (first | (go_at_call 48; refine (HR.out _).mono ?_; rintro e w' ⟨rfl, hB⟩))
  go_ret
  exact ⟨rfl, HB1.out.trans (hB.mono HB1.out.size)⟩
theorem text_no (y m d : Int) (h : ¬ May y m d) (w : World) (hT : Tabs w) :
    Calls Tryd.prog 27 #[dateV y m d] w fun e w' => e = .returned (.tuple #[.string (strOfNums []), .int .i64 60]) ∧ Below w.heap.size w w' := by
  have hb0 := (Below.refl _ w).alloc (Nat.le_refl _) (.cells #[.int .i64 y, .int .i64 m, .int .i64 d] 23)
  have hc := check_any y m d _ (hT.next hb0)
  rw [mayE_no h] at hc
  have HC := Lib.hid hc
  have HB := Lib.hid hb0
  clear hc hb0 h hT
  go_enter Tryd.func27, Tryd.ntmps27
  go_wp2_with fail
  refine HC.out.mono ?_
  rintro e w1 ⟨rfl, hB1⟩
  have HB1 := Lib.hid (HB.out.trans (hB1.mono (by simp)))
  clear hB1
  go_wp2
  go_ret2
  exact ⟨rfl, HB1.out⟩
set_option maxRecDepth 100000 in
set_option maxHeartbeats 4000000 in
theorem text_yes (y m d : Int) (h : May y m d) (w : World) (hT : TabsM w) :
    Calls Tryd.prog 27 #[dateV y m d] w fun e w' => e = .returned (.tuple #[.string (strOfNums (dateL y m d)), .int .i64 0]) ∧ Below w.heap.size w w' := by
  have hb0 := (Below.refl _ w).alloc (Nat.le_refl _) (.cells #[.int .i64 y, .int .i64 m, .int .i64 d] 23)
  have hr := heap_alloc_new w (.cells #[.int .i64 y, .int .i64 m, .int .i64 d] 23)
  have hc := check_any y m d _ (hT.next hb0).1
  rw [mayE_yes h] at hc
  have hdb := dlen_bounds (y := y) (m := m)
  obtain ⟨h1, h2, h3, h4, h5, h6⟩ := h
  have hy := fun X hX => digits_four y (by omega) (by omega) X hX
  have hm := fun X => digits_two m (by omega) (by omega) X
  have hd := fun X => digits_two d (by omega) (by omega) X
  have HT := Lib.hid (show ∀ X, Below w.heap.size w X → TabsM X from fun X hX => hT.next hX)
  have HC := Lib.hid hc
  have HB := Lib.hid hb0
  have HR := Lib.hid hr
  have HY := Lib.hid hy
  have HM := Lib.hid hm
  have HD := Lib.hid hd
  clear hc hb0 hr hy hm hd hT h1 h2 h3 h4 h5 h6 hdb
  have e1 : strOfNums (fourL y) ++ ⟨#[45]⟩ = strOfNums (fourL y ++ [45]) := str_app _ [45]
  have e2 : strOfNums (fourL y ++ [45]) ++ strOfNums (twoL m) = strOfNums (fourL y ++ [45] ++ twoL m) := str_app _ _
  have e3 : strOfNums (fourL y ++ [45] ++ twoL m) ++ ⟨#[45]⟩ = strOfNums (fourL y ++ [45] ++ twoL m ++ [45]) := str_app _ [45]
  have e4 : strOfNums (fourL y ++ [45] ++ twoL m ++ [45]) ++ strOfNums (twoL d) = strOfNums (dateL y m d) := str_app _ _
  have z1 : (strOfNums (fourL y)).size = 4 := by rw [strOfNums_size]; rfl
  have z2 : (strOfNums (fourL y ++ [45])).size = 5 := by rw [strOfNums_size]; rfl
  have z3 : (strOfNums (fourL y ++ [45] ++ twoL m)).size = 7 := by rw [strOfNums_size]; rfl
  have z4 : (strOfNums (fourL y ++ [45] ++ twoL m ++ [45])).size = 8 := by rw [strOfNums_size]; rfl
  have z5 : (strOfNums (twoL m)).size = 2 := by rw [strOfNums_size]; rfl
  have z6 : (strOfNums (twoL d)).size = 2 := by rw [strOfNums_size]; rfl
  generalize hA1 : strOfNums (fourL y) = A1 at *
  generalize hA2 : strOfNums (fourL y ++ [45]) = A2 at *
  generalize hA3 : strOfNums (fourL y ++ [45] ++ twoL m) = A3 at *
  generalize hA4 : strOfNums (fourL y ++ [45] ++ twoL m ++ [45]) = A4 at *
  generalize hA5 : strOfNums (dateL y m d) = A5 at *
  generalize hB1 : strOfNums (twoL m) = B1 at *
  generalize hB2 : strOfNums (twoL d) = B2 at *
  clear hA1 hA2 hA3 hA4 hA5 hB1 hB2
  go_enter Tryd.func27, Tryd.ntmps27
  go_wp2_with fail
  refine HC.out.mono ?_
  rintro e w1 ⟨rfl, hB1⟩
  have hr1 := (hB1.block w.heap.size (by simp)).trans HR.out
  have hb1 := HB.out.trans (hB1.mono (by simp))
  have c0 : w1.cell? ⟨w.heap.size, 0, none⟩ = some (.int .i64 y) := cell_of_row w1 _ 0 _ _ _ hr1
  have c1 : w1.cell? ⟨w.heap.size, 1, none⟩ = some (.int .i64 m) := cell_of_row w1 _ 1 _ _ _ hr1
  have c2 : w1.cell? ⟨w.heap.size, 2, none⟩ = some (.int .i64 d) := cell_of_row w1 _ 2 _ _ _ hr1
  have hq : w1.heap[w.heap.size]? = some (.cells #[.int .i64 y, .int .i64 m, .int .i64 d] 23 (0, 0)) := hr1
  have HQ := Lib.hid hq
  have HB1 := Lib.hid hb1
  have hlt1 : w.heap.size < w1.drew.heap.size := (Array.getElem?_eq_some_iff.1 hq).1
  clear hB1 hr1 hb1 HC HR HB hq
  go_wp2_with fail
  go_region_held3 (fun w' => w'.cell? ⟨w.heap.size, 0, none⟩ = some (.int .i64 y) ∧ w'.cell? ⟨w.heap.size, 1, none⟩ = some (.int .i64 m) ∧ w'.cell? ⟨w.heap.size, 2, none⟩ = some (.int .i64 d))
    (first | go_keep | exact ⟨cell_of_row w4 _ 0 _ _ _ q4, cell_of_row w4 _ 1 _ _ _ q4, cell_of_row w4 _ 2 _ _ _ q4⟩ | exact ⟨cell_of_row w3 _ 0 _ _ _ q3, cell_of_row w3 _ 1 _ _ _ q3, cell_of_row w3 _ 2 _ _ _ q3⟩ | exact ⟨cell_of_row w2 _ 0 _ _ _ q2, cell_of_row w2 _ 1 _ _ _ q2, cell_of_row w2 _ 2 _ _ _ q2⟩)
    (first
      | (go_at_call 41; ((with_reducible refine (HY.out _ (HT.out _ HB1.out.drew)).mono ?_); rintro e w2 ⟨rfl, hB2⟩; have q2 := (hB2.block w.heap.size hlt1).trans HQ.out; have b2 := HB1.out.drew.trans (hB2.mono HB1.out.drew.size); have hlt2 := (Array.getElem?_eq_some_iff.1 q2).1; clear hB2))
      | (go_at_call 41; ((with_reducible refine (HM.out w2).mono ?_); rintro e w3 ⟨rfl, hB3⟩; have q3 := (hB3.block w.heap.size hlt2).trans q2; have b3 := b2.trans (hB3.mono b2.size); have hlt3 := (Array.getElem?_eq_some_iff.1 q3).1; clear hB3))
      | (go_at_call 41; ((with_reducible refine (HD.out w3).mono ?_); rintro e w4 ⟨rfl, hB4⟩; have q4 := (hB4.block w.heap.size hlt3).trans q3; have b4 := b3.trans (hB4.mono b3.size); clear hB4)))
  go_wp2
  go_ret2
  exact ⟨rfl, b4⟩
theorem textAt_no (y m d h mi s : Int) (hn : ¬ MomIs y m d h mi s) (w : World) (hT : TabsM w) :
    Calls Tryd.prog 28 #[momV y m d h mi s] w fun e w' => e = .returned (.tuple #[.string (strOfNums []), .int .i64 60]) ∧ Below w.heap.size w w' := by
  have hb0 := (Below.refl _ w).alloc (Nat.le_refl _) (.cells #[.int .i64 y, .int .i64 m, .int .i64 d, .int .i64 h, .int .i64 mi, .int .i64 s] 40)
  have hr := heap_alloc_new w (.cells #[.int .i64 y, .int .i64 m, .int .i64 d, .int .i64 h, .int .i64 mi, .int .i64 s] 40)
  have hT1 := hT.next hb0
  have HB := Lib.hid hb0
  have HR := Lib.hid hr
  clear hb0 hr hT
  by_cases c1 : May y m d
  · have hg := Lib.hid (show decide (TimeIs h mi s) = false from decide_eq_false (fun c => hn ⟨c1, c⟩))
    have HC := Lib.hid (text_yes y m d c1 _ hT1)
    clear hT1 c1 hn
    obtain ⟨A, hA⟩ : ∃ A, A = strOfNums (dateL y m d) := ⟨_, rfl⟩
    rw [← hA] at HC
    clear hA
    go_enter Tryd.func28, Tryd.ntmps28
    go_wp2_with fail
    refine HC.out.mono ?_
    rintro e w1 ⟨rfl, hB1⟩
    have hr1 := (hB1.block w.heap.size (by simp)).trans HR.out
    have HB1 := Lib.hid (HB.out.trans (hB1.mono (by simp)))
    have c0 : w1.cell? ⟨w.heap.size, 0, none⟩ = some (.int .i64 y) := cell_of_row w1 _ 0 _ _ _ hr1
    have c1 : w1.cell? ⟨w.heap.size, 1, none⟩ = some (.int .i64 m) := cell_of_row w1 _ 1 _ _ _ hr1
    have c2 : w1.cell? ⟨w.heap.size, 2, none⟩ = some (.int .i64 d) := cell_of_row w1 _ 2 _ _ _ hr1
    have c3 : w1.cell? ⟨w.heap.size, 3, none⟩ = some (.int .i64 h) := cell_of_row w1 _ 3 _ _ _ hr1
    have c4 : w1.cell? ⟨w.heap.size, 4, none⟩ = some (.int .i64 mi) := cell_of_row w1 _ 4 _ _ _ hr1
    have c5 : w1.cell? ⟨w.heap.size, 5, none⟩ = some (.int .i64 s) := cell_of_row w1 _ 5 _ _ _ hr1
    clear hB1 hr1 HC
    go_wp2_with fail
    refine (hasTime_any _ _ _ _ _ _ _).mono ?_
    rintro e w2 ⟨rfl, hB2⟩
    rw [hg.out]
    have HB2 := Lib.hid (HB1.out.trans (hB2.mono HB1.out.size))
    clear hB2
    go_wp2
    go_ret2
    exact ⟨rfl, HB2.out⟩
  · have HC := Lib.hid (text_no y m d c1 _ hT1.1)
    clear hT1 c1 hn
    go_enter Tryd.func28, Tryd.ntmps28
    go_wp2_with fail
    refine HC.out.mono ?_
    rintro e w1 ⟨rfl, hB1⟩
    have HB1 := Lib.hid (HB.out.trans (hB1.mono (by simp)))
    clear hB1 HC
    go_wp2
    go_ret2
    exact ⟨rfl, HB1.out⟩
set_option maxRecDepth 100000 in
set_option maxHeartbeats 4000000 in
theorem textAt_yes (y m d h mi s : Int) (hn : MomIs y m d h mi s) (w : World) (hT : TabsM w) :
    Calls Tryd.prog 28 #[momV y m d h mi s] w fun e w' => e = .returned (.tuple #[.string (strOfNums (momL y m d h mi s)), .int .i64 0]) ∧ Below w.heap.size w w' := by
  have hb0 := (Below.refl _ w).alloc (Nat.le_refl _) (.cells #[.int .i64 y, .int .i64 m, .int .i64 d, .int .i64 h, .int .i64 mi, .int .i64 s] 40)
  have hr := heap_alloc_new w (.cells #[.int .i64 y, .int .i64 m, .int .i64 d, .int .i64 h, .int .i64 mi, .int .i64 s] 40)
  have hT1 := hT.next hb0
  have HB := Lib.hid hb0
  have HR := Lib.hid hr
  clear hb0 hr hT
  have hg := Lib.hid (show decide (TimeIs h mi s) = true from decide_eq_true hn.2)
  have HC := Lib.hid (text_yes y m d hn.1 _ hT1)
  obtain ⟨⟨t1, t2⟩, ⟨t3, t4⟩, t5, t6⟩ := hn.2
  have HH := Lib.hid (fun X => digits_two h t1 (by omega) X)
  have HM := Lib.hid (fun X => digits_two mi t3 (by omega) X)
  have HD := Lib.hid (fun X => digits_two s t5 (by omega) X)
  clear hT1 hn t1 t2 t3 t4 t5 t6
  have e0 : strOfNums (dateL y m d) ++ ⟨#[84]⟩ = strOfNums (dateL y m d ++ [84]) := str_app _ [84]
  have e1 : strOfNums (dateL y m d ++ [84]) ++ strOfNums (twoL h) = strOfNums (dateL y m d ++ [84] ++ twoL h) := str_app _ _
  have e2 : strOfNums (dateL y m d ++ [84] ++ twoL h) ++ ⟨#[58]⟩ = strOfNums (dateL y m d ++ [84] ++ twoL h ++ [58]) := str_app _ [58]
  have e3 : strOfNums (dateL y m d ++ [84] ++ twoL h ++ [58]) ++ strOfNums (twoL mi) = strOfNums (dateL y m d ++ [84] ++ twoL h ++ [58] ++ twoL mi) := str_app _ _
  have e4 : strOfNums (dateL y m d ++ [84] ++ twoL h ++ [58] ++ twoL mi) ++ ⟨#[58]⟩ = strOfNums (dateL y m d ++ [84] ++ twoL h ++ [58] ++ twoL mi ++ [58]) := str_app _ [58]
  have e5 : strOfNums (dateL y m d ++ [84] ++ twoL h ++ [58] ++ twoL mi ++ [58]) ++ strOfNums (twoL s) = strOfNums (momL y m d h mi s) := str_app _ _
  have z0 : (strOfNums (dateL y m d)).size = 10 := by rw [strOfNums_size]; rfl
  have z1 : (strOfNums (dateL y m d ++ [84])).size = 11 := by rw [strOfNums_size]; rfl
  have z2 : (strOfNums (dateL y m d ++ [84] ++ twoL h)).size = 13 := by rw [strOfNums_size]; rfl
  have z3 : (strOfNums (dateL y m d ++ [84] ++ twoL h ++ [58])).size = 14 := by rw [strOfNums_size]; rfl
  have z4 : (strOfNums (dateL y m d ++ [84] ++ twoL h ++ [58] ++ twoL mi)).size = 16 := by rw [strOfNums_size]; rfl
  have z5 : (strOfNums (dateL y m d ++ [84] ++ twoL h ++ [58] ++ twoL mi ++ [58])).size = 17 := by rw [strOfNums_size]; rfl
  have z6 : (strOfNums (twoL h)).size = 2 := by rw [strOfNums_size]; rfl
  have z7 : (strOfNums (twoL mi)).size = 2 := by rw [strOfNums_size]; rfl
  have z8 : (strOfNums (twoL s)).size = 2 := by rw [strOfNums_size]; rfl
  generalize hA0 : strOfNums (dateL y m d) = A0 at *
  generalize hA1 : strOfNums (dateL y m d ++ [84]) = A1 at *
  generalize hA2 : strOfNums (dateL y m d ++ [84] ++ twoL h) = A2 at *
  generalize hA3 : strOfNums (dateL y m d ++ [84] ++ twoL h ++ [58]) = A3 at *
  generalize hA4 : strOfNums (dateL y m d ++ [84] ++ twoL h ++ [58] ++ twoL mi) = A4 at *
  generalize hA5 : strOfNums (dateL y m d ++ [84] ++ twoL h ++ [58] ++ twoL mi ++ [58]) = A5 at *
  generalize hA6 : strOfNums (momL y m d h mi s) = A6 at *
  generalize hB0 : strOfNums (twoL h) = B0 at *
  generalize hB1 : strOfNums (twoL mi) = B1 at *
  generalize hB2 : strOfNums (twoL s) = B2 at *
  clear hA0 hA1 hA2 hA3 hA4 hA5 hA6 hB0 hB1 hB2
  go_enter Tryd.func28, Tryd.ntmps28
  go_wp2_with fail
  refine HC.out.mono ?_
  rintro e w0 ⟨rfl, hB1⟩
  have hr0 := (hB1.block w.heap.size (by simp)).trans HR.out
  have HB0 := Lib.hid (HB.out.trans (hB1.mono (by simp)))
  have c0 : w0.cell? ⟨w.heap.size, 0, none⟩ = some (.int .i64 y) := cell_of_row w0 _ 0 _ _ _ hr0
  have c1 : w0.cell? ⟨w.heap.size, 1, none⟩ = some (.int .i64 m) := cell_of_row w0 _ 1 _ _ _ hr0
  have c2 : w0.cell? ⟨w.heap.size, 2, none⟩ = some (.int .i64 d) := cell_of_row w0 _ 2 _ _ _ hr0
  have c3 : w0.cell? ⟨w.heap.size, 3, none⟩ = some (.int .i64 h) := cell_of_row w0 _ 3 _ _ _ hr0
  have c4 : w0.cell? ⟨w.heap.size, 4, none⟩ = some (.int .i64 mi) := cell_of_row w0 _ 4 _ _ _ hr0
  have c5 : w0.cell? ⟨w.heap.size, 5, none⟩ = some (.int .i64 s) := cell_of_row w0 _ 5 _ _ _ hr0
  have HR0 := Lib.hid hr0
  clear hB1 hr0 HC
  go_wp2_with fail
  refine (hasTime_any _ _ _ _ _ _ _).mono ?_
  rintro e w1 ⟨rfl, hB2⟩
  rw [hg.out]
  have hq : w1.heap[w.heap.size]? = some (.cells #[.int .i64 y, .int .i64 m, .int .i64 d, .int .i64 h, .int .i64 mi, .int .i64 s] 40 (0, 0)) := (hB2.block w.heap.size (Array.getElem?_eq_some_iff.1 HR0.out).1).trans HR0.out
  have HB1 := Lib.hid (HB0.out.trans (hB2.mono HB0.out.size))
  clear hB2 c0 c1 c2 c3 c4 c5
  have c0 : w1.cell? ⟨w.heap.size, 0, none⟩ = some (.int .i64 y) := cell_of_row w1 _ 0 _ _ _ hq
  have c1 : w1.cell? ⟨w.heap.size, 1, none⟩ = some (.int .i64 m) := cell_of_row w1 _ 1 _ _ _ hq
  have c2 : w1.cell? ⟨w.heap.size, 2, none⟩ = some (.int .i64 d) := cell_of_row w1 _ 2 _ _ _ hq
  have c3 : w1.cell? ⟨w.heap.size, 3, none⟩ = some (.int .i64 h) := cell_of_row w1 _ 3 _ _ _ hq
  have c4 : w1.cell? ⟨w.heap.size, 4, none⟩ = some (.int .i64 mi) := cell_of_row w1 _ 4 _ _ _ hq
  have c5 : w1.cell? ⟨w.heap.size, 5, none⟩ = some (.int .i64 s) := cell_of_row w1 _ 5 _ _ _ hq
  have HQ := Lib.hid hq
  have hlt1 : w.heap.size < w1.drew.heap.size := (Array.getElem?_eq_some_iff.1 hq).1
  clear hq HR0 HB0 HR HB
  go_wp2_with fail
  go_region_held3 (fun w' => w'.cell? ⟨w.heap.size, 3, none⟩ = some (.int .i64 h) ∧ w'.cell? ⟨w.heap.size, 4, none⟩ = some (.int .i64 mi) ∧ w'.cell? ⟨w.heap.size, 5, none⟩ = some (.int .i64 s))
    (first | go_keep | exact ⟨cell_of_row w4 _ 3 _ _ _ q4, cell_of_row w4 _ 4 _ _ _ q4, cell_of_row w4 _ 5 _ _ _ q4⟩ | exact ⟨cell_of_row w3 _ 3 _ _ _ q3, cell_of_row w3 _ 4 _ _ _ q3, cell_of_row w3 _ 5 _ _ _ q3⟩ | exact ⟨cell_of_row w2 _ 3 _ _ _ q2, cell_of_row w2 _ 4 _ _ _ q2, cell_of_row w2 _ 5 _ _ _ q2⟩)
    (first
      | (go_at_call 41; ((with_reducible refine (HH.out w1.drew).mono ?_); rintro e w2 ⟨rfl, hB2⟩; have q2 := (hB2.block w.heap.size hlt1).trans HQ.out; have b2 := HB1.out.drew.trans (hB2.mono HB1.out.drew.size); have hlt2 := (Array.getElem?_eq_some_iff.1 q2).1; clear hB2))
      | (go_at_call 41; ((with_reducible refine (HM.out w2).mono ?_); rintro e w3 ⟨rfl, hB3⟩; have q3 := (hB3.block w.heap.size hlt2).trans q2; have b3 := b2.trans (hB3.mono b2.size); have hlt3 := (Array.getElem?_eq_some_iff.1 q3).1; clear hB3))
      | (go_at_call 41; ((with_reducible refine (HD.out w3).mono ?_); rintro e w4 ⟨rfl, hB4⟩; have q4 := (hB4.block w.heap.size hlt3).trans q3; have b4 := b3.trans (hB4.mono b3.size); clear hB4)))
  go_wp2
  go_ret2
  exact ⟨rfl, b4⟩
end Go.Proofs.YtjlejpenegjbcaaDoor
