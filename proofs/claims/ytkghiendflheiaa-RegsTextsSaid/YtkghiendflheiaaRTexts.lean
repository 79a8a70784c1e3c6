/- The walk of the statement RegsTexts. -/
import Derived.Test.YtkghiendflheiaaRRefF
import Derived.Test.YtkghiendflheiaaRUndone
set_option linter.unusedVariables false
namespace Go.Proofs.Ytkghiendflheiaa
open Go.RowKit Go.Sort Go.Shelf
theorem rfrom_none (a : Option Addr) (c : Nat) (w : World) :
    Calls Try.prog 12 #[.slice a 0 c] w fun e w' => e = .returned (.string (strOfNums [])) ∧ Below w.heap.size w w' := by
  go_enter Try.func12, Try.ntmps12
  go_wp2
  go_loopw [3, 4] (fun t i wr => i = .int .i64 0 ∧ t = .string ⟨#[]⟩ ∧ wr = w) (fun _ _ _ => 0)
  case atStart => exact ⟨rfl, rfl, rfl⟩
  case round =>
    obtain ⟨rfl, rfl, rfl⟩ := hrel
    go_wp2
    exact bodyPost_ret (v := .string ⟨#[]⟩) (by simp [results, Try.results12, go_sem]) rfl ⟨by simp [strOfNums], Below.refl _ _⟩
theorem rfrom_any (a : Option Addr) (n c : Nat) (ls : List Int) (hl : n ≤ 200) (w : World) (hI : Bys16 w.heap.size w (.slice a n c) ls) :
    Calls Try.prog 12 #[.slice a n c] w fun e w' => e = .returned (.string (strOfNums (textL ls))) ∧ Below w.heap.size w w' := by
  obtain ⟨hls, ⟨rfl, a1, c1, e⟩ | ⟨b1, o1, c1, e, hb, h1⟩⟩ := hI
  · cases e
    exact rfrom_none _ _ w
  · cases e
    exact rfrom_cells b1 o1 _ _ ls rfl hl hls w hb h1
theorem Regs.reads {ls : List Int} {k : Int} {w w' : World} {e : Ending} (h : Regs ls k w e w') : Reads ls k w e w' := by
  obtain ⟨a, c, rfl, hO, hB⟩ := h
  exact ⟨a, c, rfl, hO.bys, hB⟩
theorem tx_facts (s : ByteArray) (many : Int) : ∃ (L : List Int) (k : Int), L.length ≤ 125 ∧ (∀ w, Calls Try.prog 6 #[.string s, .int .i64 many] w (Regs L k w)) ∧ (∀ w, Calls Try.prog 7 #[.string s, .int .i64 many] w (Reads L k w)) := by
  by_cases h : ∃ m : Nat, many = m ∧ textB s m
  · obtain ⟨m, rfl, hm⟩ := h
    have hl : (pairsL (padL s m)).length = m := by rw [pairsL_len, padL_len]; omega
    exact ⟨_, 0, by rw [hl]; exact hm.1, text_yes s m hm, rtext_yes s m hm⟩
  · exact ⟨[], 20, by simp, text_no s many (fun m e hm => h ⟨m, e, hm⟩), fun w => (rtext_no s many (fun m e hm => h ⟨m, e, hm⟩) w).mono fun e w' h => h.reads⟩
theorem fb_facts (bs : List Int) (hb : bs.length ≤ 400) : ∃ (V : List Int) (g : Int), V.length ≤ 200 ∧ (∀ a c w, Bys8 w.heap.size w (.slice a bs.length c) bs → Calls Try.prog 9 #[.slice a bs.length c] w (Regs V g w)) ∧
    ((bs.length % 2 = 1 ∧ V = [] ∧ g = 20) ∨ (bs.length = 2 * V.length ∧ g = 0 ∧ ∀ j, j < V.length → V.getD j 0 = bs.getD (2 * j) 0 * 256 + bs.getD (2 * j + 1) 0)) := by
  by_cases h : bs.length % 2 = 1
  · exact ⟨[], 20, by simp, fun a c w _ => from_odd a _ c w h (by omega), .inl ⟨h, rfl, rfl⟩⟩
  · have hl : (pairsL bs).length = bs.length / 2 := pairsL_len bs
    refine ⟨pairsL bs, 0, by rw [hl]; omega, fun a c w hI => from_even a _ c bs (bs.length / 2) (by omega) (by omega) w hI, .inr ⟨by rw [hl]; omega, rfl, fun j hj => ?_⟩⟩
    rw [hl] at hj
    unfold pairsL
    simp [List.getD, hj]
/-- Every place of the list stands in its cell. -/
def At8 (W : World) (a : Option Addr) (xs : List Int) : Prop := ∀ j, j < xs.length → ∃ b off, a = some ⟨b, off, none⟩ ∧ b < W.heap.size ∧ W.cell? ⟨b, off + j, none⟩ = some (.int .u8 (xs.getD j 0))
def At16 (W : World) (a : Option Addr) (xs : List Int) : Prop := ∀ j, j < xs.length → ∃ b off, a = some ⟨b, off, none⟩ ∧ b < W.heap.size ∧ W.cell? ⟨b, off + j, none⟩ = some (.int .u16 (xs.getD j 0))
theorem Bys8.at {W : World} {a : Option Addr} {n c : Nat} {xs : List Int} (h : Bys8 W.heap.size W (.slice a n c) xs) : At8 W a xs := by
  intro j hj
  obtain ⟨_, ⟨rfl, _⟩ | ⟨b, off, cap, e, hb, hc⟩⟩ := h
  · simp at hj
  · cases e
    exact ⟨b, off, rfl, hb, hc j hj⟩
theorem Bys16.at {W : World} {a : Option Addr} {n c : Nat} {xs : List Int} (h : Bys16 W.heap.size W (.slice a n c) xs) : At16 W a xs := by
  intro j hj
  obtain ⟨_, ⟨rfl, _⟩ | ⟨b, off, cap, e, hb, hc⟩⟩ := h
  · simp at hj
  · cases e
    exact ⟨b, off, rfl, hb, hc j hj⟩
theorem drew_below {n : Nat} {w A : World} (h : Below n w A) (q : Nat) : Below n w (A.drewN q) :=
  h.trans ⟨rfl, rfl, rfl, Nat.le_refl _, fun _ _ => rfl⟩
set_option maxRecDepth 100000 in
set_option maxHeartbeats 4000000 in
theorem texts_yes (s : ByteArray) (hs : s.size ≤ 400) (many : Int) (a : Option Addr) (cap : Nat) (ls : List Int) (hl : ls.length ≤ 200) (d : Option Addr) (dcap : Nat) (bs : List Int) (hb : bs.length ≤ 400) (w : World) (hI : Bys16 w.heap.size w (.slice a ls.length cap) ls) (hJ : Bys8 w.heap.size w (.slice d bs.length dcap) bs) :
    Calls Try.prog 3 #[.string s, .int .i64 many, .slice a ls.length cap, .slice d bs.length dcap] w fun e w' => e = .returned (.bool true) ∧ Below w.heap.size w w' := by
  obtain ⟨L, k, hL, c1, c2⟩ := tx_facts s many
  obtain ⟨V, g, hV, c3, c4⟩ := fb_facts bs hb
  have hs1 : ¬ ((400 : Int) < s.size) := by omega
  have hs2 : ¬ ((200 : Int) < ls.length) := by omega
  have hs3 : ¬ ((400 : Int) < bs.length) := by omega
  have HI := Lib.hid hI
  have HJ := Lib.hid hJ
  have HC1 := Lib.hid c1
  have HC2 := Lib.hid c2
  have HC3 := Lib.hid c3
  have HC4 := Lib.hid c4
  clear c1 c2 c3 c4 hI hJ
  go_enter Try.func3, Try.ntmps3
  go_wp2_with fail
  refine (HC1.out _).mono ?_
  rintro e w1 ⟨a1, k1, rfl, hO1, hB1⟩
  have D1 := Lib.hid hB1
  have X1 := Lib.hid hO1.bys
  clear hB1 hO1
  go_wp2_with fail
  refine (HC2.out _).mono ?_
  rintro e w2 ⟨a2, k2, rfl, hO2, hB2⟩
  have D2 := Lib.hid (D1.out.trans (hB2.mono D1.out.size))
  have X2 := Lib.hid ((X1.out.below hB2).mono hB2.size)
  have Y2 := Lib.hid hO2
  clear hB2 hO2 X1
  go_wp2_with fail
  refine (bytes_any a ls.length cap ls (by omega) w2 ((HI.out.below D2.out).mono D2.out.size)).mono ?_
  rintro e w3 ⟨a3, k3, rfl, hO3, hB3⟩
  have D3 := Lib.hid (D2.out.trans (hB3.mono D2.out.size))
  have X3 := Lib.hid ((X2.out.below hB3).mono hB3.size)
  have Y3 := Lib.hid ((Y2.out.below hB3).mono hB3.size)
  have U3 := Lib.hid hO3.bys
  clear hB3 hO3 X2 Y2
  go_wp2_with fail
  refine (HC3.out _ _ w3 ((HJ.out.below D3.out).mono D3.out.size)).mono ?_
  rintro e w4 ⟨a4, k4, rfl, hO4, hB4⟩
  have D4 := Lib.hid (D3.out.trans (hB4.mono D3.out.size))
  have X4 := Lib.hid ((X3.out.below hB4).mono hB4.size)
  have Y4 := Lib.hid ((Y3.out.below hB4).mono hB4.size)
  have U4 := Lib.hid ((U3.out.below hB4).mono hB4.size)
  have V4 := Lib.hid hO4.bys
  clear hB4 hO4 X3 Y3 U3
  have hsm := same_yes a1 L.length k1 a2 L.length k2 L (by omega) w4 X4.out Y4.out
  go_wp2_with fail
  refine hsm.mono ?_
  rintro e w5 ⟨rfl, hB5⟩
  have D5 := Lib.hid (D4.out.trans (hB5.mono D4.out.size))
  have U5 := Lib.hid ((U4.out.below hB5).mono hB5.size)
  have V5 := Lib.hid ((V4.out.below hB5).mono hB5.size)
  clear hB5 hsm X4 Y4 U4 V4
  go_wp2_with fail
  have hft := fromt_any a ls.length cap ls (by omega) w5 ((HI.out.below D5.out).mono D5.out.size)
  refine hft.mono ?_
  rintro e w6 ⟨rfl, hB6⟩
  have D6 := Lib.hid (D5.out.trans (hB6.mono D5.out.size))
  have U6 := Lib.hid ((U5.out.below hB6).mono hB6.size)
  have V6 := Lib.hid ((V5.out.below hB6).mono hB6.size)
  clear hB6 hft U5 V5
  go_wp2_with fail
  have hfr := rfrom_any a ls.length cap ls (by omega) w6 ((HI.out.below D6.out).mono D6.out.size)
  refine hfr.mono ?_
  rintro e w7 ⟨rfl, hB7⟩
  have D7 := Lib.hid (D6.out.trans (hB7.mono D6.out.size))
  have U7 := Lib.hid ((U6.out.below hB7).mono hB7.size)
  have V7 := Lib.hid ((V6.out.below hB7).mono hB7.size)
  clear hB7 hfr U6 V6
  have w0 : IntKind.i64.wrap (2 * (ls.length : Int)) = 2 * (ls.length : Int) := IntWalk.i64_in _ (by omega)
  have w1' : IntKind.i64.wrap (2 * (V.length : Int)) = 2 * (V.length : Int) := IntWalk.i64_in _ (by omega)
  have IA := Lib.hid ((HI.out.below D7.out).mono D7.out.size).at
  have UA := Lib.hid U7.out.at
  have hbd := Lib.hid HI.out.1
  clear U7
  rcases HC4.out with ⟨hodd, rfl, rfl⟩ | ⟨hev, rfl, hget⟩
  · have ho1 : ((bs.length : Int) % 2 == 0) = false := by simp; omega
    go_wp2_with fail
    go_loopw [16] (fun i wr => ∃ j : Nat, j ≤ ls.length ∧ i = .int .i64 j ∧ Below w7.heap.size w7 wr) (fun i _ => ls.length - (intOf i).toNat)
    case atStart => exact ⟨0, Nat.zero_le _, rfl, Below.refl _ _⟩
    case round =>
      obtain ⟨j, hj, rfl, hB⟩ := hrel
      by_cases hlt : j < ls.length
      · obtain ⟨b1, o1, e1, hb1, q1⟩ := UA.out (2 * j) (by rw [bytesL_len]; omega)
        obtain ⟨b1', o1', e1', hb1', q2⟩ := UA.out (2 * j + 1) (by rw [bytesL_len]; omega)
        obtain ⟨b2, o2, e2, hb2, q3⟩ := IA.out j hlt
        rw [e1] at e1'
        cases e1'
        subst e1
        subst e2
        rw [bytes_get ls _ (by omega), if_neg (by omega), show 2 * j / 2 = j by omega] at q1
        rw [bytes_get ls _ (by omega), if_pos (by omega), show (2 * j + 1) / 2 = j by omega] at q2
        have hx := hbd.out (ls.getD j 0) (by simp [List.getD, hlt])
        have q1 := (hB.cell (p := ⟨b1, o1 + 2 * j, none⟩) hb1).trans q1
        have q2 := (hB.cell (p := ⟨b1, o1 + (2 * j + 1), none⟩) hb1).trans q2
        have q3 := (hB.cell (p := ⟨b2, o2 + j, none⟩) hb2).trans q3
        generalize ls.getD j 0 = x at *
        have hxe : x = x / 256 * 256 + x % 256 := by omega
        have p0 : 0 ≤ x / 256 ∧ x / 256 < 256 := by omega
        have p1 : 0 ≤ x % 256 ∧ x % 256 < 256 := by omega
        rw [hxe] at q3
        generalize x / 256 = p at *
        generalize x % 256 = q at *
        have v1 : IntKind.u16.wrap (p * 256) = p * 256 := by rw [IntKind.wrap_u16]; omega
        have v2 : IntKind.u16.wrap (p * 256 + q) = p * 256 + q := by rw [IntKind.wrap_u16]; omega
        have v3 : IntKind.u16.wrap p = p := by rw [IntKind.wrap_u16]; omega
        have v4 : IntKind.u16.wrap q = q := by rw [IntKind.wrap_u16]; omega
        have i1 : IntKind.i64.wrap (2 * (j : Int)) = 2 * (j : Int) := IntWalk.i64_in _ (by omega)
        have i2 : IntKind.i64.wrap (2 * (j : Int) + 1) = 2 * (j : Int) + 1 := IntWalk.i64_in _ (by omega)
        have HB := Lib.hid hB
        clear hB hxe
        go_wp2_with fail
        go_quiet (fail)
        go_wp2
        go_roundw
        case rel => exact ⟨j + 1, by omega, by simp, drew_below HB.out nq⟩
        case measure => simp [intOf]; omega
      · obtain rfl : j = ls.length := by omega
        have HB := Lib.hid hB
        clear hB
        go_wp2
        go_loopw [17] (fun i wx => i = .int .i64 0 ∧ Below w7.heap.size w7 wx) (fun _ _ => 0)
        case atStart => exact ⟨rfl, HB.out⟩
        case round =>
          obtain ⟨rfl, hB2⟩ := hrel
          have HB2 := Lib.hid (D7.out.trans (hB2.mono D7.out.size))
          clear hB2
          go_wp2
          go_ret
          exact ⟨rfl, HB2.out⟩
  · have ho1 : ((bs.length : Int) % 2 == 0) = true := by simp; omega
    have ho2 : (2 * (V.length : Int) == (bs.length : Int)) = true := by simp; omega
    have JA := Lib.hid ((HJ.out.below D7.out).mono D7.out.size).at
    have VA := Lib.hid V7.out.at
    have HG := Lib.hid hget
    clear hget V7
    go_wp2_with fail
    go_loopw [16] (fun i wr => ∃ j : Nat, j ≤ ls.length ∧ i = .int .i64 j ∧ Below w7.heap.size w7 wr) (fun i _ => ls.length - (intOf i).toNat)
    case atStart => exact ⟨0, Nat.zero_le _, rfl, Below.refl _ _⟩
    case round =>
      obtain ⟨j, hj, rfl, hB⟩ := hrel
      by_cases hlt : j < ls.length
      · obtain ⟨b1, o1, e1, hb1, q1⟩ := UA.out (2 * j) (by rw [bytesL_len]; omega)
        obtain ⟨b1', o1', e1', hb1', q2⟩ := UA.out (2 * j + 1) (by rw [bytesL_len]; omega)
        obtain ⟨b2, o2, e2, hb2, q3⟩ := IA.out j hlt
        rw [e1] at e1'
        cases e1'
        subst e1
        subst e2
        rw [bytes_get ls _ (by omega), if_neg (by omega), show 2 * j / 2 = j by omega] at q1
        rw [bytes_get ls _ (by omega), if_pos (by omega), show (2 * j + 1) / 2 = j by omega] at q2
        have hx := hbd.out (ls.getD j 0) (by simp [List.getD, hlt])
        have q1 := (hB.cell (p := ⟨b1, o1 + 2 * j, none⟩) hb1).trans q1
        have q2 := (hB.cell (p := ⟨b1, o1 + (2 * j + 1), none⟩) hb1).trans q2
        have q3 := (hB.cell (p := ⟨b2, o2 + j, none⟩) hb2).trans q3
        generalize ls.getD j 0 = x at *
        have hxe : x = x / 256 * 256 + x % 256 := by omega
        have p0 : 0 ≤ x / 256 ∧ x / 256 < 256 := by omega
        have p1 : 0 ≤ x % 256 ∧ x % 256 < 256 := by omega
        rw [hxe] at q3
        generalize x / 256 = p at *
        generalize x % 256 = q at *
        have v1 : IntKind.u16.wrap (p * 256) = p * 256 := by rw [IntKind.wrap_u16]; omega
        have v2 : IntKind.u16.wrap (p * 256 + q) = p * 256 + q := by rw [IntKind.wrap_u16]; omega
        have v3 : IntKind.u16.wrap p = p := by rw [IntKind.wrap_u16]; omega
        have v4 : IntKind.u16.wrap q = q := by rw [IntKind.wrap_u16]; omega
        have i1 : IntKind.i64.wrap (2 * (j : Int)) = 2 * (j : Int) := IntWalk.i64_in _ (by omega)
        have i2 : IntKind.i64.wrap (2 * (j : Int) + 1) = 2 * (j : Int) + 1 := IntWalk.i64_in _ (by omega)
        have HB := Lib.hid hB
        clear hB hxe
        go_wp2_with fail
        go_quiet (fail)
        go_wp2
        go_roundw
        case rel => exact ⟨j + 1, by omega, by simp, drew_below HB.out nq⟩
        case measure => simp [intOf]; omega
      · obtain rfl : j = ls.length := by omega
        have HB := Lib.hid hB
        clear hB
        go_wp2
        go_loopw [17] (fun i wx => ∃ j : Nat, j ≤ V.length ∧ i = .int .i64 j ∧ Below w7.heap.size w7 wx) (fun i _ => V.length - (intOf i).toNat)
        case atStart => exact ⟨0, Nat.zero_le _, rfl, HB.out⟩
        case round =>
          obtain ⟨j, hj2, rfl, hB2⟩ := hrel
          by_cases hlt : j < V.length
          · obtain ⟨b1, o1, e1, hb1, q1⟩ := JA.out (2 * j) (by omega)
            obtain ⟨b1', o1', e1', hb1', q2⟩ := JA.out (2 * j + 1) (by omega)
            obtain ⟨b2, o2, e2, hb2, q3⟩ := VA.out j hlt
            rw [e1] at e1'
            cases e1'
            subst e1
            subst e2
            rw [HG.out j hlt] at q3
            have p0 : 0 ≤ bs.getD (2 * j) 0 ∧ bs.getD (2 * j) 0 < 256 := HJ.out.bd _
            have p1 : 0 ≤ bs.getD (2 * j + 1) 0 ∧ bs.getD (2 * j + 1) 0 < 256 := HJ.out.bd _
            have q1 := (hB2.cell (p := ⟨b1, o1 + 2 * j, none⟩) hb1).trans q1
            have q2 := (hB2.cell (p := ⟨b1, o1 + (2 * j + 1), none⟩) hb1).trans q2
            have q3 := (hB2.cell (p := ⟨b2, o2 + j, none⟩) hb2).trans q3
            generalize bs.getD (2 * j) 0 = p at *
            generalize bs.getD (2 * j + 1) 0 = q at *
            have v1 : IntKind.u16.wrap (p * 256) = p * 256 := by rw [IntKind.wrap_u16]; omega
            have v2 : IntKind.u16.wrap (p * 256 + q) = p * 256 + q := by rw [IntKind.wrap_u16]; omega
            have v3 : IntKind.u16.wrap p = p := by rw [IntKind.wrap_u16]; omega
            have v4 : IntKind.u16.wrap q = q := by rw [IntKind.wrap_u16]; omega
            have i1 : IntKind.i64.wrap (2 * (j : Int)) = 2 * (j : Int) := IntWalk.i64_in _ (by omega)
            have i2 : IntKind.i64.wrap (2 * (j : Int) + 1) = 2 * (j : Int) + 1 := IntWalk.i64_in _ (by omega)
            have HB2 := Lib.hid hB2
            clear hB2
            go_wp2_with fail
            go_quiet (fail)
            go_wp2
            go_roundw
            case rel => exact ⟨j + 1, by omega, by simp, drew_below HB2.out nq⟩
            case measure => simp [intOf]; omega
          · obtain rfl : j = V.length := by omega
            have HB2 := Lib.hid (D7.out.trans (hB2.mono D7.out.size))
            clear hB2
            go_wp2
            go_ret
            exact ⟨rfl, HB2.out⟩
theorem texts_far (s : ByteArray) (many : Int) (a : Option Addr) (len cap : Nat) (d : Option Addr) (dl dcap : Nat) (h : ¬ (s.size ≤ 400 ∧ len ≤ 200 ∧ dl ≤ 400)) (w : World) :
    Calls Try.prog 3 #[.string s, .int .i64 many, .slice a len cap, .slice d dl dcap] w fun e w' => e = .returned (.bool true) ∧ Below w.heap.size w w' := by
  have hor : (400 < s.size) ∨ (s.size ≤ 400 ∧ 200 < len) ∨ (s.size ≤ 400 ∧ len ≤ 200 ∧ 400 < dl) := by omega
  clear h
  rcases hor with h1 | ⟨h1, h2⟩ | ⟨h1, h2, h3⟩
  · have h1i : (400 : Int) < s.size := by omega
    go_enter Try.func3, Try.ntmps3
    go_wp2
    go_ret
    exact ⟨rfl, Below.refl _ _⟩
  · have h1i : ¬ ((400 : Int) < s.size) := by omega
    have h2i : (200 : Int) < len := by omega
    go_enter Try.func3, Try.ntmps3
    go_wp2
    go_ret
    exact ⟨rfl, Below.refl _ _⟩
  · have h1i : ¬ ((400 : Int) < s.size) := by omega
    have h2i : ¬ ((200 : Int) < len) := by omega
    have h3i : (400 : Int) < dl := by omega
    go_enter Try.func3, Try.ntmps3
    go_wp2
    go_ret
    exact ⟨rfl, Below.refl _ _⟩
theorem texts_any (s : ByteArray) (many : Int) (a : Option Addr) (len cap : Nat) (zs : List Int) (d : Option Addr) (dl dcap : Nat) (ds : List Int) (w : World) (hs : s.size ≤ maxLen) (hm : (Lit.int .i64 many).wf = true) (hI : IsRow .u16 w a len cap zs) (hJ : IsRow .u8 w d dl dcap ds) :
    Calls Try.prog 3 #[.string s, .int .i64 many, .slice a len cap, .slice d dl dcap] w fun e w' => e = .returned (.bool true) ∧ Below w.heap.size w w' := by
  by_cases h : s.size ≤ 400 ∧ len ≤ 200 ∧ dl ≤ 400
  · obtain ⟨ls, rfl, hB⟩ := bys16_of_row hI
    obtain ⟨bs, rfl, hC⟩ := bys8_of_row hJ
    exact texts_yes s h.1 many a cap ls h.2.1 d dcap bs h.2.2 w hB hC
  · exact texts_far s many a len cap d dl dcap h w
end Go.Proofs.Ytkghiendflheiaa
