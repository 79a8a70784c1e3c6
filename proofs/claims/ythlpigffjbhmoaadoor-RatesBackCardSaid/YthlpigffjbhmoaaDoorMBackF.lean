/- The statement RatesBack, walked: part F. -/
import Derived.Test.YthlpigffjbhmoaaDoorMBackM
set_option linter.unusedVariables false
set_option linter.unusedSimpArgs false
namespace Go.Proofs.YthlpigffjbhmoaaDoor
open Go.RowKit Go.Shelf
set_option maxRecDepth 100000 in
set_option maxHeartbeats 8000000 in
theorem back_010 (a : Option Addr) (n cap : Nat) (l : List Ve) (hn : l.length = n) (s : List UInt8) (t u band : Int) (w : World) (hA : VesAt w.heap.size w a l) (hnx : n ≤ cap ∧ cap ≤ maxLen) (hT : TabsD w) (hs3 : s.length ≤ 3000) (hno : ¬ TabMay l) (z : List Ve) (hz : TabMay z) (hsz : s = textL z) (htu : ¬ u < t) :
    Calls Tryd.prog 6 #[.slice a n cap, strL s, .int .i64 t, .int .i64 u, .int .i64 band] w fun e w' => e = .returned (.bool true) ∧ Below w.heap.size w w' := by
  have HAL := Lib.hid (alive_any w hT.pow)
  have HGR := Lib.hid (fun (W : World) (hB : Below w.heap.size w W) => rGreat_any a n cap l hn W (hA.grow hB) hnx)
  have hs3i : ¬ (3000 : Int) < s.length := by omega
  have HTX := Lib.hid (fun (W : World) (hB : Below w.heap.size w W) => text_no a n cap l hn hno W (hA.grow hB) hnx)
  have HPX := Lib.hid (fun (W : World) (hB : Below w.heap.size w W) => (show Calls Tryd.prog 11 #[.string ⟨#[]⟩] W fun e w' => (∃ ya yc, e = .returned (.tuple #[.slice ya 0 yc, .int .i64 0, .int .i64 0])) ∧ Below W.heap.size W w' by
    refine (parse_any [] (by simp) W (hT.next hB (Nat.le_refl _))).mono ?_
    rintro e w' ⟨⟨r, ya, yc, m, er, rfl, hv, hc, hp⟩, hB'⟩
    obtain ⟨rfl, rfl, rfl⟩ := parse_empty hp
    exact ⟨⟨ya, yc, rfl⟩, hB'⟩))
  obtain ⟨q, hq⟩ : ∃ q, z.length = q := ⟨_, rfl⟩
  have HPS := Lib.hid (fun (W : World) (hB : Below w.heap.size w W) => (show Calls Tryd.prog 11 #[strL s] W fun e w' => (∃ za zc, e = .returned (.tuple #[.slice za q zc, .int .i64 0, .int .i64 0]) ∧ VesAt w'.heap.size w' za z ∧ q ≤ zc ∧ zc ≤ maxLen) ∧ Below W.heap.size W w' by
    refine (parse_any s (by omega) W (hT.next hB (Nat.le_refl _))).mono ?_
    rintro e w' ⟨⟨r, ya, yc, m, er, rfl, hv, hc, hp⟩, hB'⟩
    rw [hsz] at hp
    obtain ⟨rfl, rfl, rfl⟩ := parse_back hz hp
    rw [hq] at hc ⊢
    exact ⟨⟨ya, yc, rfl, hv, hc⟩, hB'⟩))
  have HTZ := Lib.hid (fun (za : Option Addr) (zc : Nat) (W : World) (hB : Below w.heap.size w W) (hv : VesAt W.heap.size W za z) (hc : q ≤ zc ∧ zc ≤ maxLen) => (show Calls Tryd.prog 9 #[.slice za q zc] W fun e w' => e = .returned (.tuple #[strL s, .int .i64 0]) ∧ Below W.heap.size W w' by
    have := text_yes za q zc z hq hz W hv hc (hT.pow.next hB (Nat.le_refl _))
    rwa [← hsz] at this))
  have HSP := Lib.hid (fun (W : World) (hB : Below w.heap.size w W) => spans_any a n cap l hn t u W (hA.grow hB) hnx)
  unfold SpansE at HSP
  obtain ⟨S, hS⟩ : ∃ S, (spansL l t u).length = S := ⟨_, rfl⟩
  rw [hS] at HSP
  have HP1 := Lib.hid (fun (W : World) (hB : Below w.heap.size w W) => price_any a n cap l hn t band W (hA.grow hB) hnx)
  have HP2 := Lib.hid (fun (W : World) (hB : Below w.heap.size w W) => price_any a n cap l hn u band W (hA.grow hB) hnx)
  have HSTAY := Lib.hid (fun (h0 : S = 0) (he : edg l u n = false) => stays (l := l) (t := t) (u := u) (by omega) (by rw [hS]; exact h0) (by rw [hn]; exact he) band)
  obtain ⟨o1, ho1⟩ : ∃ o, priceO l t band = o := ⟨_, rfl⟩
  obtain ⟨o2, ho2⟩ : ∃ o, priceO l u band = o := ⟨_, rfl⟩
  rw [ho1] at HP1
  rw [ho2] at HP2
  rw [ho1, ho2] at HSTAY
  unfold optV at HP1 HP2
  obtain ⟨z1, hz1⟩ : ∃ o, o1.getD 0 = o := ⟨_, rfl⟩
  obtain ⟨b1, hb1⟩ : ∃ o, o1.isSome = o := ⟨_, rfl⟩
  obtain ⟨z2, hz2⟩ : ∃ o, o2.getD 0 = o := ⟨_, rfl⟩
  obtain ⟨b2, hb2⟩ : ∃ o, o2.isSome = o := ⟨_, rfl⟩
  rw [hz1, hb1] at HP1
  rw [hz2, hb2] at HP2
  have HZB := Lib.hid (fun (e : o1 = o2) => (show z1 = z2 ∧ b1 = b2 by rw [← hz1, ← hb1, ← hz2, ← hb2, e]; exact ⟨rfl, rfl⟩))
  have HA := Lib.hid hA
  have HN := Lib.hid hn
  have hn2 : n ≤ 9223372036854775807 := by have := hnx; unfold maxLen at this; omega
  have htu2 : ¬ u < t := htu
  clear hA hn hT hs3 hS ho1 ho2 hz1 hz2 hb1 hb2 htu hno hz hsz hq
  go_enter Tryd.func6, Tryd.ntmps6
  go_wp2_with fail
  refine HAL.out.mono ?_
  rintro e w1 ⟨rfl, hB⟩
  have HB1 := Lib.hid hB
  clear hB HAL
  go_wp2_with fail
  refine (HGR.out _ HB1.out).mono ?_
  rintro e w2 ⟨hg | hg, hB⟩
  all_goals
    subst hg
    have HB2 := Lib.hid (HB1.out.trans (hB.mono HB1.out.size))
    clear hB HB1 HGR
  rotate_left
  · go_wp2
    go_ret
    exact ⟨rfl, HB2.out⟩
  go_wp2_with fail
  refine (HTX.out _ HB2.out).mono ?_
  rintro e w3 ⟨rfl, hB⟩
  clear HTX
  have HB3 := Lib.hid (HB2.out.trans (hB.mono HB2.out.size))
  clear hB HB2
  go_wp2_with fail
  refine (HPX.out _ HB3.out).mono ?_
  rintro e w4 ⟨⟨ya, yc, rfl⟩, hB⟩
  clear HPX
  have HB4 := Lib.hid (HB3.out.trans (hB.mono HB3.out.size))
  clear hB HB3
  go_wp2_with fail
  refine (HPS.out _ HB4.out).mono ?_
  rintro e w5 ⟨⟨za, zc, rfl, hz, hzc⟩, hB⟩
  have HZ5 := Lib.hid hz
  clear hz HPS
  have HB5 := Lib.hid (HB4.out.trans (hB.mono HB4.out.size))
  clear hB HB4
  go_wp2_with fail
  refine (HTZ.out za zc _ HB5.out HZ5.out hzc).mono ?_
  rintro e w6 ⟨rfl, hB⟩
  clear HTZ HZ5
  have HB6 := Lib.hid (HB5.out.trans (hB.mono HB5.out.size))
  clear hB HB5
  have HB7 := HB6
  clear HB6
  go_wp2_with fail
  refine (HSP.out _ HB7.out).mono ?_
  rintro e w8 ⟨⟨sa, sc, rfl, hs⟩, hB⟩
  clear HSP hs
  have HB8 := Lib.hid (HB7.out.trans (hB.mono HB7.out.size))
  clear hB HB7
  go_wp2_with fail
  refine (HP1.out _ HB8.out).mono ?_
  rintro e w9 ⟨rfl, hB⟩
  clear HP1
  have HB9 := Lib.hid (HB8.out.trans (hB.mono HB8.out.size))
  clear hB HB8
  go_wp2_with fail
  refine (HP2.out _ HB9.out).mono ?_
  rintro e w10 ⟨rfl, hB⟩
  clear HP2
  have HB10 := Lib.hid (HB9.out.trans (hB.mono HB9.out.size))
  clear hB HB9
  go_wp2_with fail
  go_loopw [27, 28] (fun ee kk wr => ∃ k : Nat, k ≤ n ∧ kk = .int .i64 k ∧ ee = .bool (edg l u k) ∧ Below w.heap.size w wr) (fun _ kk _ => (n - intOf kk).toNat)
  case atStart => exact ⟨0, Nat.zero_le _, rfl, by rw [edg_zero], HB10.out⟩
  case round =>
    obtain ⟨k, hk, rfl, rfl, hb⟩ := hrel
    have HB := Lib.hid hb
    clear hb HB10
    obtain ⟨eb, heb⟩ : ∃ eb, edg l u k = eb := ⟨_, rfl⟩
    rw [heb]
    by_cases hlt : k < n
    · have hlti : (k : Int) < n := by omega
      obtain ⟨v, hv⟩ : ∃ v, l[k]? = some v := ⟨_, List.getElem?_eq_getElem (by rw [HN.out]; exact hlt)⟩
      obtain ⟨b9, o9, pa9, pc9, e9, _, c9, _, _, _⟩ := HA.out.next HB.out (Nat.le_refl _) k v hv
      subst e9
      obtain ⟨vf, hvf⟩ : ∃ vf, v.f = vf := ⟨_, rfl⟩
      rw [hvf] at c9
      have hed := edg_succ (u := u) hv
      rw [heb, hvf] at hed
      have HED := Lib.hid hed
      clear hv hvf hed heb
      cases eb with
      | true =>
        rw [Bool.true_or] at HED
        go_wp2
        go_roundw
        case rel => exact ⟨k + 1, by omega, by go_num, by rw [HED.out], HB.out⟩
        case measure => first | (simp [intOf]; done) | (simp [intOf]; omega)
      | false =>
        rw [Bool.false_or] at HED
        go_wp2
        go_roundw
        case rel => exact ⟨k + 1, by omega, by go_num, by rw [HED.out], HB.out⟩
        case measure => first | (simp [intOf]; done) | (simp [intOf]; omega)
    · have hke : k = n := by omega
      have hnl : ¬ ((k : Int) < n) := by omega
      rw [hke] at heb
      have HEB := Lib.hid heb
      clear heb
      by_cases hS : 0 < S
      · have hSi : (0 : Int) < S := by omega
        go_wp2
        go_ret
        exact ⟨rfl, HB.out⟩
      · have hSi : ¬ (0 : Int) < S := by omega
        cases eb with
        | true =>
          go_wp2
          go_ret
          exact ⟨rfl, HB.out⟩
        | false =>
          obtain ⟨rfl, rfl⟩ := HZB.out (HSTAY.out (by omega) HEB.out)
          have hzz : (z1 == z1) = true := by simp
          have hbb : (b1 == b1) = true := by simp
          go_wp2
          go_ret
          exact ⟨rfl, HB.out⟩
end Go.Proofs.YthlpigffjbhmoaaDoor
