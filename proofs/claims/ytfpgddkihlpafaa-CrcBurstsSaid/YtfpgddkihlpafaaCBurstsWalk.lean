/- The walk of the statement CrcBursts. -/
import Derived.Test.YtfpgddkihlpafaaCTurn
set_option linter.unusedVariables false
namespace Go.Proofs.Ytfpgddkihlpafaa
open Go.RowKit Go.Shelf
theorem Row.swap {g n : Nat} {f : Nat → Int} {w : World} (h : Row g (n + 4) f w) (a b c d : Int) (ha : a = f (n + 3)) (hb : b = f (n + 2)) (hc : c = f (n + 1)) (hd : d = f n) :
    Row g (n + 4) (sw n f) ((((w.setCell ⟨g, n, none⟩ (.int .u8 a)).setCell ⟨g, n + 1, none⟩ (.int .u8 b)).setCell ⟨g, n + 2, none⟩ (.int .u8 c)).setCell ⟨g, n + 3, none⟩ (.int .u8 d)) := by
  subst ha; subst hb; subst hc; subst hd
  refine ((((h.set n _).set (n + 1) _).set (n + 2) _).set (n + 3) _).congr fun j hj => ?_
  unfold sw
  by_cases h0 : j = n
  · subst h0; simp
  · by_cases h1 : j = n + 1
    · subst h1; simp
    · by_cases h2 : j = n + 2
      · subst h2; simp
      · by_cases h3 : j = n + 3
        · subst h3; simp
        · simp [h0, h1, h2, h3]
theorem sw_bd {n : Nat} {f : Nat → Int} (h : ∀ j, j < n + 4 → 0 ≤ f j ∧ f j < 256) (j : Nat) (hj : j < n + 4) : 0 ≤ sw n f j ∧ sw n f j < 256 := by
  unfold sw
  split
  · exact h _ (by omega)
  · split
    · exact h _ (by omega)
    · split
      · exact h _ (by omega)
      · split
        · exact h _ (by omega)
        · exact h _ hj
theorem upto_getD (xs : List Int) (n : Nat) (h : xs.length = n) : upto (fun j => xs.getD j 0) n = xs := by
  apply List.ext_getElem (by rw [upto_length, h])
  intro i h1 h2
  simp [upto, List.getD, h2]
set_option maxRecDepth 100000 in
set_option maxHeartbeats 8000000 in
theorem bursts_yes (a : Option Addr) (n cap : Nat) (xs : List Int) (hn : xs.length = n) (hl : n ≤ 1000) (from_ mask : Nat) (hf : from_ < 4294967296) (hm : mask < 4294967296) (w : World) (hI : Bys w.heap.size w (.slice a n cap) xs) :
    Calls Try.prog 3 #[.slice a n cap, .int .u32 from_, .int .u32 mask] w fun e w' => e = .returned (.bool true) ∧ Below w.heap.size w w' := by
  have hgt : decide (1000 < (n : Int)) = false := by simp; omega
  have hl16 : (seal16 xs).length = n + 2 := by rw [seal16_len, hn]
  have hl32 : (seal32 xs).length = n + 4 := by rw [seal32_len, hn]
  have T1 := Lib.hid (fun b c w h => turned_any b (n + 2) c (seal16 xs) (by omega) (by omega) from_ hf (mask % 65536) (by omega) w h)
  have T2 := Lib.hid (fun b c w h => turned_any b (n + 4) c (low32 xs) (by omega) (by omega) from_ hf mask hm w h)
  have u1 : IntKind.u64.wrap ((mask : Int) % 65536) = (mask : Int) % 65536 := by rw [IntKind.wrap_u64]; omega
  have u2 : IntKind.u64.wrap (mask : Int) = (mask : Int) := by rw [IntKind.wrap_u64]; omega
  have em : ((mask % 65536 : Nat) : Int) = (mask : Int) % 65536 := by omega
  rw [em] at T1
  have C1 := Lib.hid (fun w h => seal16_any a n cap xs w h (by omega))
  have C2 := Lib.hid (fun w h => seal32_any a n cap xs w h (by omega))
  have B16 := Lib.hid (fun f (h : Diff (seal16 xs) (upto f (n + 2)) (mask % 65536)) => burst16 xs _ (mask % 65536) (by omega) (by rw [upto_length, hl16]) h n)
  have B32 := Lib.hid (fun f (h : Diff (low32 xs) (upto f (n + 4)) mask) => seal32_no f n xs mask hn hm h)
  have Q32 := Lib.hid (fun f (h : upto f (n + 4) = seal32 xs) => sw_seal f n xs hn h)
  have L16 := Lib.hid hl16
  have L32 := Lib.hid hl32
  have HI := Lib.hid hI
  have G32 := Lib.hid (upto_getD (seal32 xs) (n + 4) hl32)
  clear hl16 hl32 hI hm hf hn em
  generalize seal16 xs = S16 at *
  generalize seal32 xs = S32 at *
  generalize low32 xs = W32 at *
  have i1 : IntKind.i64.wrap ((n : Int) + 1) = (n : Int) + 1 := IntWalk.i64_in _ (by omega)
  have i2 : IntKind.i64.wrap ((n : Int) + 2) = (n : Int) + 2 := IntWalk.i64_in _ (by omega)
  have i3 : IntKind.i64.wrap ((n : Int) + 3) = (n : Int) + 3 := IntWalk.i64_in _ (by omega)
  go_enter Try.func3, Try.ntmps3
  go_wp2_with fail
  refine (alive_any w).mono ?_
  rintro e w1 ⟨rfl, hB1⟩
  have D1 := Lib.hid hB1
  clear hB1
  go_wp2_with fail
  refine (C1.out w1 ((HI.out.below D1.out).mono D1.out.size)).mono ?_
  rintro e w2 ⟨a2, k2, rfl, hO2, hB2⟩
  have D2 := Lib.hid (D1.out.trans (hB2.mono D1.out.size))
  rw [L16.out] at hO2
  rw [L16.out]
  have S2 := Lib.hid hO2.bys
  clear hO2 hB2
  go_wp2_with fail
  refine (T1.out a2 k2 w2 S2.out).mono ?_
  rintro e w3 (⟨v3, rfl, hB3⟩ | ⟨g3, k3, f3, rfl, hg3, hg3', hk3, hR3, hf3, hd3, hB3⟩)
  · have DC := Lib.hid (D2.out.trans (hB3.mono D2.out.size))
    clear hB3
    go_wp2_with fail
    refine (C2.out w3 ((HI.out.below DC.out).mono DC.out.size)).mono ?_
    rintro e w5 ⟨a5, k5, rfl, hO5, hB5⟩
    have D5 := Lib.hid (DC.out.trans (hB5.mono DC.out.size))
    rw [L32.out] at hO5
    rw [L32.out]
    obtain ⟨g, rfl, hg1, hg2, hk5, _, hR⟩ := hO5.rowed (by omega)
    have hgw : w.heap.size ≤ g := Nat.le_trans DC.out.size hg1
    have hS := hO5.1
    have hbd : ∀ j, j < n + 4 → 0 ≤ S32.getD j 0 ∧ S32.getD j 0 < 256 := fun j hj => hS _ (by simp [List.getD, L32.out, hj])
    have HG := Lib.hid G32.out
    obtain ⟨f, hfd⟩ : ∃ f : Nat → Int, (fun j => S32.getD j 0) = f := ⟨_, rfl⟩
    have hbd2 : ∀ j, j < n + 4 → 0 ≤ f j ∧ f j < 256 := fun j hj => by rw [← hfd]; exact hbd j hj
    have QF := Lib.hid (Q32.out f (by rw [← hfd]; exact HG.out))
    rw [hfd] at hR
    obtain ⟨z0, y0⟩ := hR n (by omega)
    obtain ⟨z1, y1⟩ := hR (n + 1) (by omega)
    obtain ⟨z2, y2⟩ := hR (n + 2) (by omega)
    obtain ⟨z3, y3⟩ := hR (n + 3) (by omega)
    have HSW := Lib.hid (fun p0 p1 p2 p3 h3 h2 h1 h0 => hR.swap p3 p2 p1 p0 h3 h2 h1 h0)
    have HBD := Lib.hid hbd2
    clear hO5 hB5 hS hbd hbd2 hfd hR HG
    obtain ⟨p0, P0⟩ : ∃ p, p = f n := ⟨_, rfl⟩
    obtain ⟨p1, P1⟩ : ∃ p, p = f (n + 1) := ⟨_, rfl⟩
    obtain ⟨p2, P2⟩ : ∃ p, p = f (n + 2) := ⟨_, rfl⟩
    obtain ⟨p3, P3⟩ : ∃ p, p = f (n + 3) := ⟨_, rfl⟩
    rw [← P0] at z0
    rw [← P1] at z1
    rw [← P2] at z2
    rw [← P3] at z3
    have HP := Lib.hid (HSW.out p0 p1 p2 p3 P3 P2 P1 P0)
    clear HSW P0 P1 P2 P3
    have K1 := Lib.hid (And.intro hgw hg2)
    clear hgw hg2
    go_wp2_with fail
    go_region
    obtain ⟨w6, hw6⟩ : ∃ w6 : World, ((((w5.setCell ⟨g, n, none⟩ (.int .u8 p3)).setCell ⟨g, n + 1, none⟩ (.int .u8 p2)).setCell ⟨g, n + 2, none⟩ (.int .u8 p1)).setCell ⟨g, n + 3, none⟩ (.int .u8 p0)).drew = w6 := ⟨_, rfl⟩
    rw [hw6]
    have R6 : Row g (n + 4) (sw n f) w6 := by rw [← hw6]; exact HP.out.drew
    have hgw := K1.out.1
    have D6 : Below w.heap.size w w6 := by
      rw [← hw6]
      exact ((((D5.out.setCell (p := ⟨g, n, none⟩) hgw _).setCell (p := ⟨g, n + 1, none⟩) hgw _).setCell (p := ⟨g, n + 2, none⟩) hgw _).setCell (p := ⟨g, n + 3, none⟩) hgw _).drew
    have g6 : g < w6.heap.size := by rw [← hw6]; simpa using K1.out.2
    have Y6 := R6.bys (sw_bd HBD.out) g6 k5
    rw [QF.out] at Y6
    have HY6 := Lib.hid Y6
    have HD6 := Lib.hid D6
    clear hw6 R6 D6 g6 Y6 HP D5 hgw z0 z1 z2 z3 y0 y1 y2 y3 QF HBD K1
    go_wp2_with fail
    refine (T2.out (some ⟨g, 0, none⟩) k5 w6 HY6.out).mono ?_
    rintro e w7 (⟨v7, rfl, hB7⟩ | ⟨g7, k7, f7, rfl, hg7, hg7', hk7, hR7, hf7, hd7, hB7⟩)
    · have D7 := Lib.hid (HD6.out.trans (hB7.mono HD6.out.size))
      clear hB7
      go_wp2
      go_ret
      exact ⟨rfl, D7.out⟩
    · have D7 := Lib.hid (HD6.out.trans (hB7.mono HD6.out.size))
      have hgw := Nat.le_trans HD6.out.size hg7
      obtain ⟨z0, y0⟩ := hR7 n (by omega)
      obtain ⟨z1, y1⟩ := hR7 (n + 1) (by omega)
      obtain ⟨z2, y2⟩ := hR7 (n + 2) (by omega)
      obtain ⟨z3, y3⟩ := hR7 (n + 3) (by omega)
      have HSW := Lib.hid (fun p0 p1 p2 p3 h3 h2 h1 h0 => hR7.swap p3 p2 p1 p0 h3 h2 h1 h0)
      have HNO := Lib.hid (B32.out f7 hd7)
      have HBD := Lib.hid hf7
      have K1 := Lib.hid (And.intro hgw (And.intro hg7' hk7))
      clear hB7 hgw hR7 hd7 hf7 hg7 hg7' hk7
      obtain ⟨p0, P0⟩ : ∃ p, p = f7 n := ⟨_, rfl⟩
      obtain ⟨p1, P1⟩ : ∃ p, p = f7 (n + 1) := ⟨_, rfl⟩
      obtain ⟨p2, P2⟩ : ∃ p, p = f7 (n + 2) := ⟨_, rfl⟩
      obtain ⟨p3, P3⟩ : ∃ p, p = f7 (n + 3) := ⟨_, rfl⟩
      rw [← P0] at z0
      rw [← P1] at z1
      rw [← P2] at z2
      rw [← P3] at z3
      have HP := Lib.hid (HSW.out p0 p1 p2 p3 P3 P2 P1 P0)
      clear HSW P0 P1 P2 P3
      go_wp2_with fail
      go_region
      obtain ⟨w8, hw8⟩ : ∃ w8 : World, ((((w7.setCell ⟨g7, n, none⟩ (.int .u8 p3)).setCell ⟨g7, n + 1, none⟩ (.int .u8 p2)).setCell ⟨g7, n + 2, none⟩ (.int .u8 p1)).setCell ⟨g7, n + 3, none⟩ (.int .u8 p0)).drew = w8 := ⟨_, rfl⟩
      rw [hw8]
      have R8 : Row g7 (n + 4) (sw n f7) w8 := by rw [← hw8]; exact HP.out.drew
      have hgw := K1.out.1
      have D8 : Below w.heap.size w w8 := by
        rw [← hw8]
        exact ((((D7.out.setCell (p := ⟨g7, n, none⟩) hgw _).setCell (p := ⟨g7, n + 1, none⟩) hgw _).setCell (p := ⟨g7, n + 2, none⟩) hgw _).setCell (p := ⟨g7, n + 3, none⟩) hgw _).drew
      have g8 : g7 < w8.heap.size := by rw [← hw8]; simpa using K1.out.2.1
      have Y8 := R8.bys (sw_bd HBD.out) g8 k7
      have ho := Open32_no (some ⟨g7, 0, none⟩) n k7 _ w8 Y8 (by rw [upto_length]) K1.out.2.2 (by rw [upto_length]; omega) HNO.out
      have HO := Lib.hid ho
      have HD8 := Lib.hid D8
      clear hw8 R8 D8 g8 Y8 ho HP D7 hgw z0 z1 z2 z3 y0 y1 y2 y3 HNO HBD K1
      go_wp2_with fail
      refine HO.out.mono ?_
      rintro e w9 ⟨rfl, hB9⟩
      have D9 := Lib.hid (HD8.out.trans (hB9.mono HD8.out.size))
      clear hB9
      go_wp2
      go_ret
      exact ⟨rfl, D9.out⟩
  · have D3 := Lib.hid (D2.out.trans (hB3.mono D2.out.size))
    have hne := B16.out f3 hd3
    have hY := hR3.bys hf3 hg3' k3
    have ho := Open16_no (some ⟨g3, 0, none⟩) n k3 _ w3 hY (by rw [upto_length]) hk3 (by rw [upto_length]; omega) hne
    have HO := Lib.hid ho
    clear hB3 hne hY ho hR3 hf3 hd3
    go_wp2_with fail
    refine HO.out.mono ?_
    rintro e w4 ⟨rfl, hB4⟩
    have DC := Lib.hid (D3.out.trans (hB4.mono D3.out.size))
    clear hB4
    go_wp2_with fail
    refine (C2.out w4 ((HI.out.below DC.out).mono DC.out.size)).mono ?_
    rintro e w5 ⟨a5, k5, rfl, hO5, hB5⟩
    have D5 := Lib.hid (DC.out.trans (hB5.mono DC.out.size))
    rw [L32.out] at hO5
    rw [L32.out]
    obtain ⟨g, rfl, hg1, hg2, hk5, _, hR⟩ := hO5.rowed (by omega)
    have hgw : w.heap.size ≤ g := Nat.le_trans DC.out.size hg1
    have hS := hO5.1
    have hbd : ∀ j, j < n + 4 → 0 ≤ S32.getD j 0 ∧ S32.getD j 0 < 256 := fun j hj => hS _ (by simp [List.getD, L32.out, hj])
    have HG := Lib.hid G32.out
    obtain ⟨f, hfd⟩ : ∃ f : Nat → Int, (fun j => S32.getD j 0) = f := ⟨_, rfl⟩
    have hbd2 : ∀ j, j < n + 4 → 0 ≤ f j ∧ f j < 256 := fun j hj => by rw [← hfd]; exact hbd j hj
    have QF := Lib.hid (Q32.out f (by rw [← hfd]; exact HG.out))
    rw [hfd] at hR
    obtain ⟨z0, y0⟩ := hR n (by omega)
    obtain ⟨z1, y1⟩ := hR (n + 1) (by omega)
    obtain ⟨z2, y2⟩ := hR (n + 2) (by omega)
    obtain ⟨z3, y3⟩ := hR (n + 3) (by omega)
    have HSW := Lib.hid (fun p0 p1 p2 p3 h3 h2 h1 h0 => hR.swap p3 p2 p1 p0 h3 h2 h1 h0)
    have HBD := Lib.hid hbd2
    clear hO5 hB5 hS hbd hbd2 hfd hR HG
    obtain ⟨p0, P0⟩ : ∃ p, p = f n := ⟨_, rfl⟩
    obtain ⟨p1, P1⟩ : ∃ p, p = f (n + 1) := ⟨_, rfl⟩
    obtain ⟨p2, P2⟩ : ∃ p, p = f (n + 2) := ⟨_, rfl⟩
    obtain ⟨p3, P3⟩ : ∃ p, p = f (n + 3) := ⟨_, rfl⟩
    rw [← P0] at z0
    rw [← P1] at z1
    rw [← P2] at z2
    rw [← P3] at z3
    have HP := Lib.hid (HSW.out p0 p1 p2 p3 P3 P2 P1 P0)
    clear HSW P0 P1 P2 P3
    have K1 := Lib.hid (And.intro hgw hg2)
    clear hgw hg2
    go_wp2_with fail
    go_region
    obtain ⟨w6, hw6⟩ : ∃ w6 : World, ((((w5.setCell ⟨g, n, none⟩ (.int .u8 p3)).setCell ⟨g, n + 1, none⟩ (.int .u8 p2)).setCell ⟨g, n + 2, none⟩ (.int .u8 p1)).setCell ⟨g, n + 3, none⟩ (.int .u8 p0)).drew = w6 := ⟨_, rfl⟩
    rw [hw6]
    have R6 : Row g (n + 4) (sw n f) w6 := by rw [← hw6]; exact HP.out.drew
    have hgw := K1.out.1
    have D6 : Below w.heap.size w w6 := by
      rw [← hw6]
      exact ((((D5.out.setCell (p := ⟨g, n, none⟩) hgw _).setCell (p := ⟨g, n + 1, none⟩) hgw _).setCell (p := ⟨g, n + 2, none⟩) hgw _).setCell (p := ⟨g, n + 3, none⟩) hgw _).drew
    have g6 : g < w6.heap.size := by rw [← hw6]; simpa using K1.out.2
    have Y6 := R6.bys (sw_bd HBD.out) g6 k5
    rw [QF.out] at Y6
    have HY6 := Lib.hid Y6
    have HD6 := Lib.hid D6
    clear hw6 R6 D6 g6 Y6 HP D5 hgw z0 z1 z2 z3 y0 y1 y2 y3 QF HBD K1
    go_wp2_with fail
    refine (T2.out (some ⟨g, 0, none⟩) k5 w6 HY6.out).mono ?_
    rintro e w7 (⟨v7, rfl, hB7⟩ | ⟨g7, k7, f7, rfl, hg7, hg7', hk7, hR7, hf7, hd7, hB7⟩)
    · have D7 := Lib.hid (HD6.out.trans (hB7.mono HD6.out.size))
      clear hB7
      go_wp2
      go_ret
      exact ⟨rfl, D7.out⟩
    · have D7 := Lib.hid (HD6.out.trans (hB7.mono HD6.out.size))
      have hgw := Nat.le_trans HD6.out.size hg7
      obtain ⟨z0, y0⟩ := hR7 n (by omega)
      obtain ⟨z1, y1⟩ := hR7 (n + 1) (by omega)
      obtain ⟨z2, y2⟩ := hR7 (n + 2) (by omega)
      obtain ⟨z3, y3⟩ := hR7 (n + 3) (by omega)
      have HSW := Lib.hid (fun p0 p1 p2 p3 h3 h2 h1 h0 => hR7.swap p3 p2 p1 p0 h3 h2 h1 h0)
      have HNO := Lib.hid (B32.out f7 hd7)
      have HBD := Lib.hid hf7
      have K1 := Lib.hid (And.intro hgw (And.intro hg7' hk7))
      clear hB7 hgw hR7 hd7 hf7 hg7 hg7' hk7
      obtain ⟨p0, P0⟩ : ∃ p, p = f7 n := ⟨_, rfl⟩
      obtain ⟨p1, P1⟩ : ∃ p, p = f7 (n + 1) := ⟨_, rfl⟩
      obtain ⟨p2, P2⟩ : ∃ p, p = f7 (n + 2) := ⟨_, rfl⟩
      obtain ⟨p3, P3⟩ : ∃ p, p = f7 (n + 3) := ⟨_, rfl⟩
      rw [← P0] at z0
      rw [← P1] at z1
      rw [← P2] at z2
      rw [← P3] at z3
      have HP := Lib.hid (HSW.out p0 p1 p2 p3 P3 P2 P1 P0)
      clear HSW P0 P1 P2 P3
      go_wp2_with fail
      go_region
      obtain ⟨w8, hw8⟩ : ∃ w8 : World, ((((w7.setCell ⟨g7, n, none⟩ (.int .u8 p3)).setCell ⟨g7, n + 1, none⟩ (.int .u8 p2)).setCell ⟨g7, n + 2, none⟩ (.int .u8 p1)).setCell ⟨g7, n + 3, none⟩ (.int .u8 p0)).drew = w8 := ⟨_, rfl⟩
      rw [hw8]
      have R8 : Row g7 (n + 4) (sw n f7) w8 := by rw [← hw8]; exact HP.out.drew
      have hgw := K1.out.1
      have D8 : Below w.heap.size w w8 := by
        rw [← hw8]
        exact ((((D7.out.setCell (p := ⟨g7, n, none⟩) hgw _).setCell (p := ⟨g7, n + 1, none⟩) hgw _).setCell (p := ⟨g7, n + 2, none⟩) hgw _).setCell (p := ⟨g7, n + 3, none⟩) hgw _).drew
      have g8 : g7 < w8.heap.size := by rw [← hw8]; simpa using K1.out.2.1
      have Y8 := R8.bys (sw_bd HBD.out) g8 k7
      have ho := Open32_no (some ⟨g7, 0, none⟩) n k7 _ w8 Y8 (by rw [upto_length]) K1.out.2.2 (by rw [upto_length]; omega) HNO.out
      have HO := Lib.hid ho
      have HD8 := Lib.hid D8
      clear hw8 R8 D8 g8 Y8 ho HP D7 hgw z0 z1 z2 z3 y0 y1 y2 y3 HNO HBD K1
      go_wp2_with fail
      refine HO.out.mono ?_
      rintro e w9 ⟨rfl, hB9⟩
      have D9 := Lib.hid (HD8.out.trans (hB9.mono HD8.out.size))
      clear hB9
      go_wp2
      go_ret
      exact ⟨rfl, D9.out⟩
theorem bursts_any (a : Option Addr) (len cap : Nat) (za : List Int) (b c : Int) (w : World) (ha : IsRow .u8 w a len cap za) (hb : (Lit.int .u32 b).wf = true) (hc : (Lit.int .u32 c).wf = true) :
    Calls Try.prog 3 #[.slice a len cap, .int .u32 b, .int .u32 c] w fun e w' => e = .returned (.bool true) ∧ Below w.heap.size w w' := by
  by_cases hl : len ≤ 1000
  · obtain ⟨xs, hx, hI⟩ := bys_of_row ha
    simp [Lit.wf, IntKind.min, IntKind.max, IntKind.bits, IntKind.signed] at hb hc
    obtain ⟨f, rfl⟩ := Int.eq_ofNat_of_zero_le (show 0 ≤ b by omega)
    obtain ⟨m, rfl⟩ := Int.eq_ofNat_of_zero_le (show 0 ≤ c by omega)
    exact bursts_yes a len cap xs hx hl f m (by omega) (by omega) w hI
  · have hgt : (1000 : Int) < (len : Int) := by omega
    clear ha hb hc
    go_enter Try.func3, Try.ntmps3
    go_wp2_with fail
    refine (alive_any w).mono ?_
    rintro e w1 ⟨rfl, hB1⟩
    go_wp2
    go_ret
    exact ⟨rfl, hB1⟩
end Go.Proofs.Ytfpgddkihlpafaa
