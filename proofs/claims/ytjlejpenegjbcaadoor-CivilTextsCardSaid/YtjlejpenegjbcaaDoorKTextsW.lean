/- The walk of the statement CivilTexts, over what its calls answer. -/
import Derived.Test.YtjlejpenegjbcaaDoorKRNth
import Derived.Deep.CutBlock
import Derived.Deep.DeepCutAuto
set_option linter.unusedVariables false
set_option linter.unusedSimpArgs false
namespace Go.Proofs.YtjlejpenegjbcaaDoor
open Go.RowKit Go.Shelf
theorem heap_new2 (W : World) (o z : Obj) : ((W.alloc o).alloc z).heap[W.heap.size + 1]? = some z := by
  have := heap_alloc_new (W.alloc o) z
  rw [World.size_alloc] at this
  exact this
def DateMade (y m d : Int) (DS : ByteArray) : Prop := ∃ Ay Am Ad P1 P2 P3 : ByteArray, (∀ X, Calls Tryd.prog 25 #[.int .i64 y] X fun e w' => e = .returned (.string Ay) ∧ Below X.heap.size X w') ∧ (∀ X, Calls Tryd.prog 26 #[.int .i64 m] X fun e w' => e = .returned (.string Am) ∧ Below X.heap.size X w') ∧ (∀ X, Calls Tryd.prog 26 #[.int .i64 d] X fun e w' => e = .returned (.string Ad) ∧ Below X.heap.size X w') ∧
  (Ay ++ ⟨#[45]⟩ = P1 ∧ P1 ++ Am = P2 ∧ P2 ++ ⟨#[45]⟩ = P3 ∧ P3 ++ Ad = DS) ∧ (Ay.size = 4 ∧ Am.size = 2 ∧ Ad.size = 2 ∧ P1.size = 5 ∧ P2.size = 7 ∧ P3.size = 8 ∧ DS.size = 10)
def ClockMade (h mi x : Int) (DS CS : ByteArray) : Prop := ∃ Ah Am Ax P1 P2 P3 P4 P5 : ByteArray, (∀ X, Calls Tryd.prog 26 #[.int .i64 h] X fun e w' => e = .returned (.string Ah) ∧ Below X.heap.size X w') ∧ (∀ X, Calls Tryd.prog 26 #[.int .i64 mi] X fun e w' => e = .returned (.string Am) ∧ Below X.heap.size X w') ∧ (∀ X, Calls Tryd.prog 26 #[.int .i64 x] X fun e w' => e = .returned (.string Ax) ∧ Below X.heap.size X w') ∧
  (DS ++ ⟨#[84]⟩ = P1 ∧ P1 ++ Ah = P2 ∧ P2 ++ ⟨#[58]⟩ = P3 ∧ P3 ++ Am = P4 ∧ P4 ++ ⟨#[58]⟩ = P5 ∧ P5 ++ Ax = CS) ∧ (Ah.size = 2 ∧ Am.size = 2 ∧ Ax.size = 2 ∧ DS.size = 10 ∧ P1.size = 11 ∧ P2.size = 13 ∧ P3.size = 14 ∧ P4.size = 16 ∧ P5.size = 17)
set_option maxRecDepth 100000 in
set_option maxHeartbeats 8000000 in
theorem texts_walk (y m d h mi x wd n : Int) (s : ByteArray) (hs : s.size ≤ 100) (w : World) (hT : TabsM w)
    (B1 B2 B3 : Bool) (DS CS : ByteArray) (ea eb : Int)
    (A1 : ∀ X, Calls Tryd.prog 10 #[.int .i64 y, .int .i64 m, .int .i64 d] X fun e w' => e = .returned (.bool B1) ∧ X = w')
    (A2 : ∀ X, Calls Tryd.prog 22 #[.int .i64 h, .int .i64 mi, .int .i64 x] X fun e w' => e = .returned (.bool B3) ∧ X = w')
    (hB2 : B2 = (B1 && B3))
    (FD : (B1 = true ∧ DateMade y m d DS) ∨ (B1 = false ∧ DS = ⟨#[]⟩))
    (FC : (B2 = true ∧ ClockMade h mi x DS CS) ∨ (B2 = false ∧ CS = ⟨#[]⟩))
    (T1 : ∀ X, TabsM X → Calls Tryd.prog 27 #[dateV y m d] X fun e w' => e = .returned (.tuple #[.string DS, .int .i64 ea]) ∧ Below X.heap.size X w')
    (T2 : ∀ X, TabsM X → Calls Tryd.prog 28 #[momV y m d h mi x] X fun e w' => e = .returned (.tuple #[.string CS, .int .i64 eb]) ∧ Below X.heap.size X w')
    (FA : (ea = 0 ∧ B1 = true) ∨ (ea = 60 ∧ B1 = false)) (FB : (eb = 0 ∧ B2 = true) ∨ (eb = 60 ∧ B2 = false))
    (a1 a2 a3 pe : Int)
    (P1 : ∀ X, TabsM X → Calls Tryd.prog 29 #[.string s] X fun e w' => e = .returned (.tuple #[dateV a1 a2 a3, .int .i64 pe]) ∧ Below X.heap.size X w')
    (P2 : ∀ X, Calls Tryd.prog 30 #[.string s] X fun e w' => e = .returned (.tuple #[.int .i64 a1, .int .i64 a2, .int .i64 a3, .int .i64 pe]) ∧ X = w')
    (b1 b2 b3 b4 b5 b6 be : Int)
    (Q1 : ∀ X, TabsM X → Calls Tryd.prog 31 #[.string s] X fun e w' => e = .returned (.tuple #[momV b1 b2 b3 b4 b5 b6, .int .i64 be]) ∧ Below X.heap.size X w')
    (c1 c2 c3 ce d1 d2 d3 de : Int)
    (FQ : (s.size = 19 ∧ (∀ X, Calls Tryd.prog 30 #[.string (s.extract 0 10)] X fun e w' => e = .returned (.tuple #[.int .i64 c1, .int .i64 c2, .int .i64 c3, .int .i64 ce]) ∧ X = w') ∧ (∀ X, Calls Tryd.prog 32 #[.string (s.extract 10 19)] X fun e w' => e = .returned (.tuple #[.int .i64 d1, .int .i64 d2, .int .i64 d3, .int .i64 de]) ∧ X = w') ∧
      ((be = 0 ∧ ce = 0 ∧ de = 0 ∧ b1 = c1 ∧ b2 = c2 ∧ b3 = c3 ∧ b4 = d1 ∧ b5 = d2 ∧ b6 = d3) ∨ (be = 60 ∧ (b1 = 0 ∧ b2 = 0 ∧ b3 = 0 ∧ b4 = 0 ∧ b5 = 0 ∧ b6 = 0) ∧ ((ce = 0 ∧ de = 60) ∨ ce = 60)))) ∨
      (s.size ≠ 19 ∧ be = 60 ∧ (b1 = 0 ∧ b2 = 0 ∧ b3 = 0 ∧ b4 = 0 ∧ b5 = 0 ∧ b6 = 0)))
    (n1 n2 n3 ne nd : Int)
    (N1 : ∀ X, TabsM X → Calls Tryd.prog 33 #[.int .i64 y, .int .i64 m, .int .i64 wd, .int .i64 n] X fun e w' => e = .returned (.tuple #[dateV n1 n2 n3, .int .i64 ne]) ∧ Below X.heap.size X w')
    (N2 : ∀ X, Calls Tryd.prog 34 #[.int .i64 y, .int .i64 m, .int .i64 wd, .int .i64 n] X fun e w' => e = .returned (.tuple #[.int .i64 nd, .int .i64 ne]) ∧ X = w')
    (FN : (ne = 0 ∧ n1 = y ∧ n2 = m ∧ n3 = nd) ∨ (ne = 60 ∧ n1 = 0 ∧ n2 = 0 ∧ n3 = 0)) :
    Calls Tryd.prog 5 #[momV y m d h mi x, .string s, .int .i64 wd, .int .i64 n] w fun e w' => e = .returned (.bool true) ∧ Below w.heap.size w w' := by
  have HT := Lib.hid (show ∀ X, Below w.heap.size w X → TabsM X from fun X hX => hT.next hX)
  have hb0 := (Below.refl _ w).alloc (Nat.le_refl _) (.cells #[.int .i64 y, .int .i64 m, .int .i64 d, .int .i64 h, .int .i64 mi, .int .i64 x] 40)
  have hr := heap_alloc_new w (.cells #[.int .i64 y, .int .i64 m, .int .i64 d, .int .i64 h, .int .i64 mi, .int .i64 x] 40)
  have HB0 := Lib.hid hb0
  have G0 := Lib.hid hr
  have HA1 := Lib.hid A1
  have HA2 := Lib.hid A2
  have HhB2 := Lib.hid hB2
  have HFD := Lib.hid FD
  have HFC := Lib.hid FC
  have HT1 := Lib.hid T1
  have HT2 := Lib.hid T2
  have HFA := Lib.hid FA
  have HFB := Lib.hid FB
  have HP1 := Lib.hid P1
  have HP2 := Lib.hid P2
  have HQ1 := Lib.hid Q1
  have HFQ := Lib.hid FQ
  have HN1 := Lib.hid N1
  have HN2 := Lib.hid N2
  have HFN := Lib.hid FN
  have hsz : (s.size : Int) ≤ 100 := by omega
  clear hs hb0 hr hT A1 A2 hB2 FD FC T1 T2 FA FB P1 P2 Q1 FQ N1 N2 FN
  go_enter Tryd.func5, Tryd.ntmps5
  go_upto_region 6 with (first | (go_at_call 10; refine (HA1.out _).mono ?_; rintro e w' ⟨rfl, rfl⟩) | fail)
  go_cut [12] from 53 to 62 (fun c wx => c = .bool B2 ∧ wx = w.alloc (.cells #[.int .i64 y, .int .i64 m, .int .i64 d, .int .i64 h, .int .i64 mi, .int .i64 x] 40))
  case first =>
    have hB2 := HhB2.out
    cases B1
    · simp only [Bool.false_and] at hB2
      subst hB2
      go_wp2_with fail
      go_meet
      exact ⟨rfl, rfl⟩
    · simp only [Bool.true_and] at hB2
      subst hB2
      go_wp2_with (first | (go_at_call 22; refine (HA2.out _).mono ?_; rintro e w' ⟨rfl, rfl⟩) | fail)
      go_meet
      exact ⟨rfl, rfl⟩
  obtain ⟨rfl, hwx⟩ := hcut
  subst wc
  go_upto_if 63 with fail
  go_cut [9] from 64 to 79 (fun c wx => c = .string DS ∧ Below w.heap.size w wx ∧ wx.heap[w.heap.size]? = some (.cells #[.int .i64 y, .int .i64 m, .int .i64 d, .int .i64 h, .int .i64 mi, .int .i64 x] 40))
  case first =>
    rcases HFD.out with ⟨rfl, Ay, Am, Ad, P1, P2, P3, k1, k2, k3, ⟨f1, f2, f3, f4⟩, z1, z2, z3, z4, z5, z6, z7⟩ | ⟨rfl, rfl⟩
    · have HK1 := Lib.hid k1
      have HK2 := Lib.hid k2
      have HK3 := Lib.hid k3
      have hlt1 : w.heap.size < (w.alloc (.cells #[.int .i64 y, .int .i64 m, .int .i64 d, .int .i64 h, .int .i64 mi, .int .i64 x] 40)).drew.heap.size := (Array.getElem?_eq_some_iff.1 G0.out).1
      have hbd := HB0.out.drew
      clear k1 k2 k3 HFD
      go_wp2_with fail
      go_region_held3 (fun w' => w'.cell? ⟨w.heap.size, 0, none⟩ = some (.int .i64 y) ∧ w'.cell? ⟨w.heap.size, 1, none⟩ = some (.int .i64 m) ∧ w'.cell? ⟨w.heap.size, 2, none⟩ = some (.int .i64 d))
        (first | exact ⟨cell_of_row w4 _ 0 _ _ _ q4, cell_of_row w4 _ 1 _ _ _ q4, cell_of_row w4 _ 2 _ _ _ q4⟩ | exact ⟨cell_of_row w3 _ 0 _ _ _ q3, cell_of_row w3 _ 1 _ _ _ q3, cell_of_row w3 _ 2 _ _ _ q3⟩ | exact ⟨cell_of_row w2 _ 0 _ _ _ q2, cell_of_row w2 _ 1 _ _ _ q2, cell_of_row w2 _ 2 _ _ _ q2⟩ | exact ⟨cell_of_row _ _ 0 _ _ _ G0.out, cell_of_row _ _ 1 _ _ _ G0.out, cell_of_row _ _ 2 _ _ _ G0.out⟩ | go_keep)
        (first
          | (go_at_call 25; ((with_reducible refine (HK1.out _).mono ?_); rintro e w2 ⟨rfl, hB2⟩; have q2 := (hB2.block w.heap.size hlt1).trans G0.out; have b2 := hbd.trans (hB2.mono hbd.size); have hlt2 := (Array.getElem?_eq_some_iff.1 q2).1; clear hB2))
          | (go_at_call 26; ((with_reducible refine (HK2.out w2).mono ?_); rintro e w3 ⟨rfl, hB3⟩; have q3 := (hB3.block w.heap.size hlt2).trans q2; have b3 := b2.trans (hB3.mono b2.size); have hlt3 := (Array.getElem?_eq_some_iff.1 q3).1; clear hB3))
          | (go_at_call 26; ((with_reducible refine (HK3.out w3).mono ?_); rintro e w4 ⟨rfl, hB4⟩; have q4 := (hB4.block w.heap.size hlt3).trans q3; have b4 := b3.trans (hB4.mono b3.size); clear hB4)))
      go_wp2_with fail
      go_meet
      exact ⟨rfl, b4, q4⟩
    · go_wp2_with fail
      go_meet
      exact ⟨rfl, HB0.out, G0.out⟩
  obtain ⟨rfl, hbx, hgx⟩ := hcut
  have HB1 := Lib.hid hbx
  have G1 := Lib.hid hgx
  clear hbx hgx HB0 G0 HFD
  rename World => X1
  go_upto_if 80 with fail
  go_cut [10] from 81 to 96 (fun c wx => c = .string CS ∧ Below w.heap.size w wx ∧ wx.heap[w.heap.size]? = some (.cells #[.int .i64 y, .int .i64 m, .int .i64 d, .int .i64 h, .int .i64 mi, .int .i64 x] 40))
  case first =>
    rcases HFC.out with ⟨rfl, Ah, Am, Ax, P1, P2, P3, P4, P5, k1, k2, k3, ⟨f1, f2, f3, f4, f5, f6⟩, z1, z2, z3, z4, z5, z6, z7, z8, z9⟩ | ⟨rfl, rfl⟩
    · have HK1 := Lib.hid k1
      have HK2 := Lib.hid k2
      have HK3 := Lib.hid k3
      have hlt1 : w.heap.size < X1.drew.heap.size := (Array.getElem?_eq_some_iff.1 G1.out).1
      have hbd := HB1.out.drew
      clear k1 k2 k3 HFC
      go_wp2_with fail
      go_region_held3 (fun w' => w'.cell? ⟨w.heap.size, 3, none⟩ = some (.int .i64 h) ∧ w'.cell? ⟨w.heap.size, 4, none⟩ = some (.int .i64 mi) ∧ w'.cell? ⟨w.heap.size, 5, none⟩ = some (.int .i64 x))
        (first | exact ⟨cell_of_row w4 _ 3 _ _ _ q4, cell_of_row w4 _ 4 _ _ _ q4, cell_of_row w4 _ 5 _ _ _ q4⟩ | exact ⟨cell_of_row w3 _ 3 _ _ _ q3, cell_of_row w3 _ 4 _ _ _ q3, cell_of_row w3 _ 5 _ _ _ q3⟩ | exact ⟨cell_of_row w2 _ 3 _ _ _ q2, cell_of_row w2 _ 4 _ _ _ q2, cell_of_row w2 _ 5 _ _ _ q2⟩ | exact ⟨cell_of_row X1.drew _ 3 _ _ _ G1.out, cell_of_row X1.drew _ 4 _ _ _ G1.out, cell_of_row X1.drew _ 5 _ _ _ G1.out⟩ | go_keep)
        (first
          | (go_at_call 26; ((with_reducible refine (HK1.out _).mono ?_); rintro e w2 ⟨rfl, hB2⟩; have q2 := (hB2.block w.heap.size hlt1).trans G1.out; have b2 := hbd.trans (hB2.mono hbd.size); have hlt2 := (Array.getElem?_eq_some_iff.1 q2).1; clear hB2))
          | (go_at_call 26; ((with_reducible refine (HK2.out w2).mono ?_); rintro e w3 ⟨rfl, hB3⟩; have q3 := (hB3.block w.heap.size hlt2).trans q2; have b3 := b2.trans (hB3.mono b2.size); have hlt3 := (Array.getElem?_eq_some_iff.1 q3).1; clear hB3))
          | (go_at_call 26; ((with_reducible refine (HK3.out w3).mono ?_); rintro e w4 ⟨rfl, hB4⟩; have q4 := (hB4.block w.heap.size hlt3).trans q3; have b4 := b3.trans (hB4.mono b3.size); clear hB4)))
      go_wp2_with fail
      go_meet
      exact ⟨rfl, b4, q4⟩
    · go_wp2_with fail
      go_meet
      exact ⟨rfl, HB1.out, G1.out⟩
  obtain ⟨rfl, hbx, hgx⟩ := hcut
  have HB2 := Lib.hid hbx
  have G2 := Lib.hid hgx
  clear hbx hgx HB1 G1 HFC
  rename World => X2
  have m0 : X2.cell? ⟨w.heap.size, 0, none⟩ = some (.int .i64 y) := cell_of_row _ _ 0 _ _ _ G2.out
  have m1 : X2.cell? ⟨w.heap.size, 1, none⟩ = some (.int .i64 m) := cell_of_row _ _ 1 _ _ _ G2.out
  have m2 : X2.cell? ⟨w.heap.size, 2, none⟩ = some (.int .i64 d) := cell_of_row _ _ 2 _ _ _ G2.out
  go_wp2_with fail
  refine (HT1.out _ (HT.out _ HB2.out)).mono ?_
  rintro e Vr1 ⟨rfl, hB⟩
  have hbr1 := HB2.out.trans (hB.mono HB2.out.size)
  have gr1 := (hB.block w.heap.size (Array.getElem?_eq_some_iff.1 G2.out).1).trans G2.out
  have HBr1 := Lib.hid hbr1
  have Gr1 := Lib.hid gr1
  clear hB hbr1 gr1
  clear m0 m1 m2
  have m0 : Vr1.cell? ⟨w.heap.size, 0, none⟩ = some (.int .i64 y) := cell_of_row _ _ 0 _ _ _ Gr1.out
  have m1 : Vr1.cell? ⟨w.heap.size, 1, none⟩ = some (.int .i64 m) := cell_of_row _ _ 1 _ _ _ Gr1.out
  have m2 : Vr1.cell? ⟨w.heap.size, 2, none⟩ = some (.int .i64 d) := cell_of_row _ _ 2 _ _ _ Gr1.out
  have m3 : Vr1.cell? ⟨w.heap.size, 3, none⟩ = some (.int .i64 h) := cell_of_row _ _ 3 _ _ _ Gr1.out
  have m4 : Vr1.cell? ⟨w.heap.size, 4, none⟩ = some (.int .i64 mi) := cell_of_row _ _ 4 _ _ _ Gr1.out
  have m5 : Vr1.cell? ⟨w.heap.size, 5, none⟩ = some (.int .i64 x) := cell_of_row _ _ 5 _ _ _ Gr1.out
  go_wp2_with fail
  refine (HT2.out _ (HT.out _ HBr1.out)).mono ?_
  rintro e Vr2 ⟨rfl, hB⟩
  have hbr2 := HBr1.out.trans (hB.mono HBr1.out.size)
  have gr2 := (hB.block w.heap.size (Array.getElem?_eq_some_iff.1 Gr1.out).1).trans Gr1.out
  have HBr2 := Lib.hid hbr2
  have Gr2 := Lib.hid gr2
  clear hB hbr2 gr2
  clear m0 m1 m2 m3 m4 m5
  go_upto_region 13 with fail
  go_cut [127] from 108 to 127 (fun c wx => c = .bool false ∧ wx = Vr2)
  case first =>
    rcases HFA.out with ⟨rfl, rfl⟩ | ⟨rfl, rfl⟩
    all_goals
      rcases HFB.out with ⟨rfl, rfl⟩ | ⟨rfl, rfl⟩
      all_goals (go_wp2_with fail; go_meet; exact ⟨rfl, rfl⟩)
  obtain ⟨rfl, hwx⟩ := hcut
  subst wc
  clear HT1 HT2 HFA HFB HhB2 HA1 HA2
  go_wp2_with fail
  refine (HP1.out _ (HT.out _ HBr2.out)).mono ?_
  rintro e Vr3 ⟨rfl, hB⟩
  have hbr3 := HBr2.out.trans (hB.mono HBr2.out.size)
  have gr3 := (hB.block w.heap.size (Array.getElem?_eq_some_iff.1 Gr2.out).1).trans Gr2.out
  have HBr3 := Lib.hid (hbr3.alloc hbr3.size (.cells #[.int .i64 a1, .int .i64 a2, .int .i64 a3] 23))
  have Gr3 := Lib.hid (heap_old gr3 (.cells #[.int .i64 a1, .int .i64 a2, .int .i64 a3] 23))
  have Nr3 := Lib.hid (heap_alloc_new Vr3 (.cells #[.int .i64 a1, .int .i64 a2, .int .i64 a3] 23))
  have hlr3 : w.heap.size < Vr3.heap.size := (Array.getElem?_eq_some_iff.1 gr3).1
  clear hB hbr3 gr3
  go_upto_region 17 with (first | (go_at_call 30; refine (HP2.out _).mono ?_; rintro e w' ⟨rfl, rfl⟩) | fail)
  have r0 : (Vr3.alloc (.cells #[.int .i64 a1, .int .i64 a2, .int .i64 a3] 23)).cell? ⟨Vr3.heap.size, 0, none⟩ = some (.int .i64 a1) := cell_of_row _ _ 0 _ _ _ Nr3.out
  have r1 : (Vr3.alloc (.cells #[.int .i64 a1, .int .i64 a2, .int .i64 a3] 23)).cell? ⟨Vr3.heap.size, 1, none⟩ = some (.int .i64 a2) := cell_of_row _ _ 1 _ _ _ Nr3.out
  have r2 : (Vr3.alloc (.cells #[.int .i64 a1, .int .i64 a2, .int .i64 a3] 23)).cell? ⟨Vr3.heap.size, 2, none⟩ = some (.int .i64 a3) := cell_of_row _ _ 2 _ _ _ Nr3.out
  go_cut [150] from 140 to 150 (fun c wx => c = .bool false ∧ wx = (Vr3.alloc (.cells #[.int .i64 a1, .int .i64 a2, .int .i64 a3] 23)))
  case first => (go_wp2_with fail; go_meet; exact ⟨rfl, rfl⟩)
  obtain ⟨rfl, hwx⟩ := hcut
  subst wc
  clear r0 r1 r2 Nr3 hlr3 HP1 HP2
  go_wp2_with fail
  refine (HQ1.out _ (HT.out _ HBr3.out)).mono ?_
  rintro e Vr4 ⟨rfl, hB⟩
  have hbr4 := HBr3.out.trans (hB.mono HBr3.out.size)
  have gr4 := (hB.block w.heap.size (Array.getElem?_eq_some_iff.1 Gr3.out).1).trans Gr3.out
  have HBr4 := Lib.hid (hbr4.alloc hbr4.size (.cells #[.int .i64 b1, .int .i64 b2, .int .i64 b3, .int .i64 b4, .int .i64 b5, .int .i64 b6] 40))
  have Gr4 := Lib.hid (heap_old gr4 (.cells #[.int .i64 b1, .int .i64 b2, .int .i64 b3, .int .i64 b4, .int .i64 b5, .int .i64 b6] 40))
  have Nr4 := Lib.hid (heap_alloc_new Vr4 (.cells #[.int .i64 b1, .int .i64 b2, .int .i64 b3, .int .i64 b4, .int .i64 b5, .int .i64 b6] 40))
  have hlr4 : w.heap.size < Vr4.heap.size := (Array.getElem?_eq_some_iff.1 gr4).1
  clear hB hbr4 gr4
  go_upto_if 159 with fail
  go_cut [26, 27, 28, 29, 30, 31, 32, 33, 34, 41, 42, 158, 159] from 160 to 189 (fun c _ _ _ _ _ _ _ _ _ _ _ _ wx => c = .int .i64 be ∧ Below w.heap.size w wx ∧ wx.heap[w.heap.size]? = some (.cells #[.int .i64 y, .int .i64 m, .int .i64 d, .int .i64 h, .int .i64 mi, .int .i64 x] 40) ∧ wx.heap[Vr4.heap.size]? = some (.cells #[.int .i64 b1, .int .i64 b2, .int .i64 b3, .int .i64 b4, .int .i64 b5, .int .i64 b6] 40) ∧ wx.heap[Vr4.heap.size + 1]? = some (.cells #[.int .i64 b1, .int .i64 b2, .int .i64 b3, .int .i64 b4, .int .i64 b5, .int .i64 b6] 40))
  case first =>
    rcases HFQ.out with ⟨hsz2, kp, kc, hq⟩ | ⟨hsz2, rfl, rfl, rfl, rfl, rfl, rfl, rfl⟩
    · have hszi : (s.size : Int) = 19 := by omega
      have HKP := Lib.hid kp
      have HKC := Lib.hid kc
      clear kp kc HFQ hsz
      rcases hq with ⟨rfl, rfl, rfl, rfl, rfl, rfl, rfl, rfl, rfl⟩ | ⟨rfl, ⟨rfl, rfl, rfl, rfl, rfl, rfl⟩, ⟨rfl, rfl⟩ | rfl⟩
      all_goals
        go_wp2_with (first
          | (go_at_call 30; refine (HKP.out _).mono ?_; rintro e w' ⟨rfl, rfl⟩)
          | (go_at_call 32; refine (HKC.out _).mono ?_; rintro e w' ⟨rfl, rfl⟩)
          | fail)
        go_meet
        exact ⟨rfl, HBr4.out.alloc HBr4.out.size _, heap_old Gr4.out _, heap_old Nr4.out _, heap_new2 _ _ _⟩
    · have gsz : ((s.size : Int) == 19) = false := by simp; omega
      go_wp2_with fail
      go_meet
      exact ⟨rfl, HBr4.out.alloc HBr4.out.size _, heap_old Gr4.out _, heap_old Nr4.out _, heap_new2 _ _ _⟩
  obtain ⟨rfl, hbx, hgx, hnq, hnz⟩ := hcut
  have HB6 := Lib.hid hbx
  have G6 := Lib.hid hgx
  have Q6 := Lib.hid hnq
  have Z6 := Lib.hid hnz
  have lq6 := (Array.getElem?_eq_some_iff.1 hnq).1
  have lz6 := (Array.getElem?_eq_some_iff.1 hnz).1
  clear hbx hgx hnq hnz HFQ HQ1 HBr4 Gr4 Nr4
  rename World => X6
  have m0 : X6.cell? ⟨w.heap.size, 0, none⟩ = some (.int .i64 y) := cell_of_row _ _ 0 _ _ _ G6.out
  have m1 : X6.cell? ⟨w.heap.size, 1, none⟩ = some (.int .i64 m) := cell_of_row _ _ 1 _ _ _ G6.out
  go_wp2_with fail
  refine (HN1.out _ (HT.out _ HB6.out)).mono ?_
  rintro e X7 ⟨rfl, hB⟩
  have hb7 := HB6.out.trans (hB.mono HB6.out.size)
  have g7 := (hB.block w.heap.size (Array.getElem?_eq_some_iff.1 G6.out).1).trans G6.out
  have q7 := (hB.block Vr4.heap.size lq6).trans Q6.out
  have z7 := (hB.block (Vr4.heap.size + 1) lz6).trans Z6.out
  have l7 : w.heap.size < X7.heap.size := (Array.getElem?_eq_some_iff.1 g7).1
  have lq7 : Vr4.heap.size < X7.heap.size := (Array.getElem?_eq_some_iff.1 q7).1
  have lz7 : Vr4.heap.size + 1 < X7.heap.size := (Array.getElem?_eq_some_iff.1 z7).1
  have HB7 := Lib.hid (hb7.alloc hb7.size (.cells #[.int .i64 n1, .int .i64 n2, .int .i64 n3] 23))
  have G7 := Lib.hid (heap_old g7 (.cells #[.int .i64 n1, .int .i64 n2, .int .i64 n3] 23))
  have Q7 := Lib.hid (heap_old q7 (.cells #[.int .i64 n1, .int .i64 n2, .int .i64 n3] 23))
  have Z7 := Lib.hid (heap_old z7 (.cells #[.int .i64 n1, .int .i64 n2, .int .i64 n3] 23))
  have N7 := Lib.hid (heap_alloc_new X7 (.cells #[.int .i64 n1, .int .i64 n2, .int .i64 n3] 23))
  clear hB hb7 g7 q7 z7 m0 m1 lq6 lz6 HB6 G6 Q6 Z6
  have m0 : (X7.alloc (.cells #[.int .i64 n1, .int .i64 n2, .int .i64 n3] 23)).cell? ⟨w.heap.size, 0, none⟩ = some (.int .i64 y) := cell_of_row _ _ 0 _ _ _ G7.out
  have m1 : (X7.alloc (.cells #[.int .i64 n1, .int .i64 n2, .int .i64 n3] 23)).cell? ⟨w.heap.size, 1, none⟩ = some (.int .i64 m) := cell_of_row _ _ 1 _ _ _ G7.out
  go_upto_region 30 with (first | (go_at_call 34; refine (HN2.out _).mono ?_; rintro e w' ⟨rfl, rfl⟩) | fail)
  clear m0 m1
  have m0 : ((X7.alloc (.cells #[.int .i64 n1, .int .i64 n2, .int .i64 n3] 23)).alloc (.cells #[.int .i64 0, .int .i64 0, .int .i64 0] 23)).cell? ⟨w.heap.size, 0, none⟩ = some (.int .i64 y) := cell_of_row _ _ 0 _ _ _ (heap_old G7.out (.cells #[.int .i64 0, .int .i64 0, .int .i64 0] 23))
  have m1 : ((X7.alloc (.cells #[.int .i64 n1, .int .i64 n2, .int .i64 n3] 23)).alloc (.cells #[.int .i64 0, .int .i64 0, .int .i64 0] 23)).cell? ⟨w.heap.size, 1, none⟩ = some (.int .i64 m) := cell_of_row _ _ 1 _ _ _ (heap_old G7.out (.cells #[.int .i64 0, .int .i64 0, .int .i64 0] 23))
  go_upto_if 216 with fail
  go_cut [215, 216] from 217 to 224 (fun _ _ wx => wx = (X7.alloc (.cells #[.int .i64 n1, .int .i64 n2, .int .i64 n3] 23)).alloc (.cells #[.int .i64 n1, .int .i64 n2, .int .i64 n3] 23))
  case first =>
    rcases HFN.out with ⟨rfl, rfl, rfl, rfl⟩ | ⟨rfl, rfl, rfl, rfl⟩
    all_goals
      go_wp2_with fail
      go_meet
      rfl
  subst hcut
  clear m0 m1
  have qe := heap_old Q7.out (.cells #[.int .i64 n1, .int .i64 n2, .int .i64 n3] 23)
  have ze := heap_old Z7.out (.cells #[.int .i64 n1, .int .i64 n2, .int .i64 n3] 23)
  have ne7 := heap_old N7.out (.cells #[.int .i64 n1, .int .i64 n2, .int .i64 n3] 23)
  have ne8 := heap_new2 X7 (.cells #[.int .i64 n1, .int .i64 n2, .int .i64 n3] 23) (.cells #[.int .i64 n1, .int .i64 n2, .int .i64 n3] 23)
  have q0 : ((X7.alloc (.cells #[.int .i64 n1, .int .i64 n2, .int .i64 n3] 23)).alloc (.cells #[.int .i64 n1, .int .i64 n2, .int .i64 n3] 23)).cell? ⟨Vr4.heap.size, 0, none⟩ = some (.int .i64 b1) := cell_of_row _ _ 0 _ _ _ qe
  have q1 : ((X7.alloc (.cells #[.int .i64 n1, .int .i64 n2, .int .i64 n3] 23)).alloc (.cells #[.int .i64 n1, .int .i64 n2, .int .i64 n3] 23)).cell? ⟨Vr4.heap.size, 1, none⟩ = some (.int .i64 b2) := cell_of_row _ _ 1 _ _ _ qe
  have q2 : ((X7.alloc (.cells #[.int .i64 n1, .int .i64 n2, .int .i64 n3] 23)).alloc (.cells #[.int .i64 n1, .int .i64 n2, .int .i64 n3] 23)).cell? ⟨Vr4.heap.size, 2, none⟩ = some (.int .i64 b3) := cell_of_row _ _ 2 _ _ _ qe
  have q3 : ((X7.alloc (.cells #[.int .i64 n1, .int .i64 n2, .int .i64 n3] 23)).alloc (.cells #[.int .i64 n1, .int .i64 n2, .int .i64 n3] 23)).cell? ⟨Vr4.heap.size, 3, none⟩ = some (.int .i64 b4) := cell_of_row _ _ 3 _ _ _ qe
  have q4 : ((X7.alloc (.cells #[.int .i64 n1, .int .i64 n2, .int .i64 n3] 23)).alloc (.cells #[.int .i64 n1, .int .i64 n2, .int .i64 n3] 23)).cell? ⟨Vr4.heap.size, 4, none⟩ = some (.int .i64 b5) := cell_of_row _ _ 4 _ _ _ qe
  have q5 : ((X7.alloc (.cells #[.int .i64 n1, .int .i64 n2, .int .i64 n3] 23)).alloc (.cells #[.int .i64 n1, .int .i64 n2, .int .i64 n3] 23)).cell? ⟨Vr4.heap.size, 5, none⟩ = some (.int .i64 b6) := cell_of_row _ _ 5 _ _ _ qe
  have z0 : ((X7.alloc (.cells #[.int .i64 n1, .int .i64 n2, .int .i64 n3] 23)).alloc (.cells #[.int .i64 n1, .int .i64 n2, .int .i64 n3] 23)).cell? ⟨(Vr4.heap.size + 1), 0, none⟩ = some (.int .i64 b1) := cell_of_row _ _ 0 _ _ _ ze
  have z1 : ((X7.alloc (.cells #[.int .i64 n1, .int .i64 n2, .int .i64 n3] 23)).alloc (.cells #[.int .i64 n1, .int .i64 n2, .int .i64 n3] 23)).cell? ⟨(Vr4.heap.size + 1), 1, none⟩ = some (.int .i64 b2) := cell_of_row _ _ 1 _ _ _ ze
  have z2 : ((X7.alloc (.cells #[.int .i64 n1, .int .i64 n2, .int .i64 n3] 23)).alloc (.cells #[.int .i64 n1, .int .i64 n2, .int .i64 n3] 23)).cell? ⟨(Vr4.heap.size + 1), 2, none⟩ = some (.int .i64 b3) := cell_of_row _ _ 2 _ _ _ ze
  have z3 : ((X7.alloc (.cells #[.int .i64 n1, .int .i64 n2, .int .i64 n3] 23)).alloc (.cells #[.int .i64 n1, .int .i64 n2, .int .i64 n3] 23)).cell? ⟨(Vr4.heap.size + 1), 3, none⟩ = some (.int .i64 b4) := cell_of_row _ _ 3 _ _ _ ze
  have z4 : ((X7.alloc (.cells #[.int .i64 n1, .int .i64 n2, .int .i64 n3] 23)).alloc (.cells #[.int .i64 n1, .int .i64 n2, .int .i64 n3] 23)).cell? ⟨(Vr4.heap.size + 1), 4, none⟩ = some (.int .i64 b5) := cell_of_row _ _ 4 _ _ _ ze
  have z5 : ((X7.alloc (.cells #[.int .i64 n1, .int .i64 n2, .int .i64 n3] 23)).alloc (.cells #[.int .i64 n1, .int .i64 n2, .int .i64 n3] 23)).cell? ⟨(Vr4.heap.size + 1), 5, none⟩ = some (.int .i64 b6) := cell_of_row _ _ 5 _ _ _ ze
  have r0 : ((X7.alloc (.cells #[.int .i64 n1, .int .i64 n2, .int .i64 n3] 23)).alloc (.cells #[.int .i64 n1, .int .i64 n2, .int .i64 n3] 23)).cell? ⟨X7.heap.size, 0, none⟩ = some (.int .i64 n1) := cell_of_row _ _ 0 _ _ _ ne7
  have r1 : ((X7.alloc (.cells #[.int .i64 n1, .int .i64 n2, .int .i64 n3] 23)).alloc (.cells #[.int .i64 n1, .int .i64 n2, .int .i64 n3] 23)).cell? ⟨X7.heap.size, 1, none⟩ = some (.int .i64 n2) := cell_of_row _ _ 1 _ _ _ ne7
  have r2 : ((X7.alloc (.cells #[.int .i64 n1, .int .i64 n2, .int .i64 n3] 23)).alloc (.cells #[.int .i64 n1, .int .i64 n2, .int .i64 n3] 23)).cell? ⟨X7.heap.size, 2, none⟩ = some (.int .i64 n3) := cell_of_row _ _ 2 _ _ _ ne7
  have t0 : ((X7.alloc (.cells #[.int .i64 n1, .int .i64 n2, .int .i64 n3] 23)).alloc (.cells #[.int .i64 n1, .int .i64 n2, .int .i64 n3] 23)).cell? ⟨(X7.heap.size + 1), 0, none⟩ = some (.int .i64 n1) := cell_of_row _ _ 0 _ _ _ ne8
  have t1 : ((X7.alloc (.cells #[.int .i64 n1, .int .i64 n2, .int .i64 n3] 23)).alloc (.cells #[.int .i64 n1, .int .i64 n2, .int .i64 n3] 23)).cell? ⟨(X7.heap.size + 1), 1, none⟩ = some (.int .i64 n2) := cell_of_row _ _ 1 _ _ _ ne8
  have t2 : ((X7.alloc (.cells #[.int .i64 n1, .int .i64 n2, .int .i64 n3] 23)).alloc (.cells #[.int .i64 n1, .int .i64 n2, .int .i64 n3] 23)).cell? ⟨(X7.heap.size + 1), 2, none⟩ = some (.int .i64 n3) := cell_of_row _ _ 2 _ _ _ ne8
  clear qe ze ne7 ne8
  have HBE := Lib.hid (HB7.out.alloc HB7.out.size (.cells #[.int .i64 n1, .int .i64 n2, .int .i64 n3] 23))
  clear HB7 G7 Q7 Z7 N7
  go_wp2_with fail
  go_ret
  exact ⟨by simp, HBE.out⟩
end Go.Proofs.YtjlejpenegjbcaaDoor
