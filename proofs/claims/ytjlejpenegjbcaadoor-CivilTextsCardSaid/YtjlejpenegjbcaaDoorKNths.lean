/- The walk of the statement CivilNths. -/
import Derived.Test.YtjlejpenegjbcaaDoorKNth
set_option linter.unusedVariables false
set_option linter.unusedSimpArgs false
namespace Go.Proofs.YtjlejpenegjbcaaDoor
open Go.RowKit Go.Shelf
theorem nth_wk (y m wd : Int) (h1 : 1 ≤ wd) (h2 : wd ≤ 7) (k : Int) : wkday (dayOf y m (nthF y m wd + 7 * (k - 1))) = wd := by
  unfold nthF wkday dayOf
  omega
theorem nthD_eq (y m wd k : Int) (h : 1 ≤ k) : nthD y m wd k = nthF y m wd + 7 * (k - 1) := by
  unfold nthD; rw [if_neg (by omega)]; omega
theorem nths_bad (y m wd : Int) (h : ¬ NthIs y m wd 1) (w : World) (hT : Tabs w) :
    Calls Tryd.prog 9 #[.int .i64 y, .int .i64 m, .int .i64 wd] w fun e w' => e = .returned (.bool true) ∧ Below w.heap.size w w' := by
  have HT := Lib.hid hT
  clear hT
  go_enter Tryd.func9, Tryd.ntmps9
  go_wp2_with fail
  refine (alive_any _ HT.out).mono ?_
  rintro e w1 ⟨rfl, hB1⟩
  have HB1 := Lib.hid hB1
  clear hB1
  go_wp2_with fail
  refine (nth_no y m wd 1 h _ (HT.out.next HB1.out)).mono ?_
  rintro e w2 ⟨rfl, hB2⟩
  have HB2 := Lib.hid (HB1.out.trans (hB2.mono HB1.out.size))
  clear hB2 h
  go_wp2
  go_ret
  exact ⟨rfl, HB2.out.alloc HB2.out.size _⟩
set_option maxRecDepth 100000 in
set_option maxHeartbeats 4000000 in
theorem nths_good (y m wd : Int) (h : NthIs y m wd 1) (w : World) (hT : Tabs w) :
    Calls Tryd.prog 9 #[.int .i64 y, .int .i64 m, .int .i64 wd] w fun e w' => e = .returned (.bool true) ∧ Below w.heap.size w w' := by
  have HT := Lib.hid (show ∀ X, Below w.heap.size w X → Tabs X from fun X hX => hT.next hX)
  obtain ⟨hm, ⟨hw1, hw7⟩, _⟩ := h
  have hdg := dlen_ge (y := y) (m := m) hm.2.2.1 hm.2.2.2.1
  have hdl := dlen_bounds (y := y) (m := m)
  have hfb := nthF_bounds y m wd
  have hlast : NthIs y m wd (-1) := ⟨hm, ⟨hw1, hw7⟩, .inl rfl⟩
  have hL := fun X hX => nth_yes y m wd (-1) hlast X hX
  have hLd : nthD y m wd (-1) = nthF y m wd + (dlen y m - nthF y m wd) / 7 * 7 := by unfold nthD; rw [if_pos rfl]
  have hF := fun X hX => nth_yes y m wd 1 ⟨hm, ⟨hw1, hw7⟩, .inr ⟨by omega, by omega, by rw [nthD_eq _ _ _ _ (by omega)]; omega⟩⟩ X hX
  rw [nthD_eq _ _ _ _ (by omega), show nthF y m wd + 7 * (1 - 1) = nthF y m wd by omega] at hF
  have hK := fun (k : Int) (h1 : 1 ≤ k) (h5 : k ≤ 5) (hle : nthF y m wd + 7 * (k - 1) ≤ dlen y m) X hX => nth_yes y m wd k ⟨hm, ⟨hw1, hw7⟩, .inr ⟨h1, h5, by rw [nthD_eq _ _ _ _ h1]; exact hle⟩⟩ X hX
  have hN := fun (hle : dlen y m < nthF y m wd + 28) X hX => nth_no y m wd 5 (fun hc => by
    obtain ⟨_, _, hc⟩ := hc
    rcases hc with hc | ⟨_, _, hc⟩
    · omega
    · rw [nthD_eq _ _ _ _ (by omega)] at hc; omega) X hX
  have hday := fun (k : Int) (h1 : 1 ≤ k) (hle : nthF y m wd + 7 * (k - 1) ≤ dlen y m) X hX => day_yes y m (nthF y m wd + 7 * (k - 1)) X hX ⟨hm.1, hm.2.1, hm.2.2.1, hm.2.2.2.1, by omega, hle⟩
  have hwk := fun (k : Int) (h1 : 1 ≤ k) (hle : nthF y m wd + 7 * (k - 1) ≤ dlen y m) X => weekday_any (dayOf y m (nthF y m wd + 7 * (k - 1))) X
  have hwke : ∀ k : Int, 1 ≤ k → nthF y m wd + 7 * (k - 1) ≤ dlen y m → wkB (dayOf y m (nthF y m wd + 7 * (k - 1))) = wd := fun k h1 hle => by
    have hb := day_bounds (y := y) (m := m) (d := nthF y m wd + 7 * (k - 1)) ⟨hm.1, hm.2.1, hm.2.2.1, hm.2.2.2.1, by omega, hle⟩
    rw [wkB_in hb.1 hb.2, nth_wk y m wd hw1 hw7]
  have hdays := fun X hX => days_any y m X hX
  have hym : 1970 ≤ y ∧ y ≤ 9999 ∧ 1 ≤ m ∧ m ≤ 12 := ⟨hm.1, hm.2.1, hm.2.2.1, hm.2.2.2.1⟩
  have hT' : ∃ T : Int, (nthF y m wd + 28 ≤ dlen y m ∧ T = 5) ∨ (dlen y m < nthF y m wd + 28 ∧ T = 4) := by
    by_cases c : nthF y m wd + 28 ≤ dlen y m
    · exact ⟨5, .inl ⟨c, rfl⟩⟩
    · exact ⟨4, .inr ⟨by omega, rfl⟩⟩
  obtain ⟨T, hTT⟩ := hT'
  rw [hLd] at hL
  have HTT := Lib.hid hTT
  have HL := Lib.hid hL
  have HF := Lib.hid hF
  have HK := Lib.hid hK
  have HN := Lib.hid hN
  have HDAY := Lib.hid hday
  have HWK := Lib.hid hwk
  have HWE := Lib.hid hwke
  have HDS := Lib.hid hdays
  clear hTT hL hF hK hN hday hwk hwke hdays hLd hlast hm hT
  obtain ⟨F1, hF1⟩ : ∃ F, F = nthF y m wd := ⟨_, rfl⟩
  obtain ⟨L, hLL⟩ : ∃ F, F = dlen y m := ⟨_, rfl⟩
  have HF1 := Lib.hid hF1
  have HLL := Lib.hid hLL
  rw [← hF1] at hfb
  rw [← hLL] at hdg hdl
  have htt2 := HTT.out
  rw [← hF1, ← hLL] at htt2
  have HTU := Lib.hid htt2
  clear htt2 HTT
  clear hF1 hLL
  go_enter Tryd.func9, Tryd.ntmps9
  go_wp2_with fail
  refine (alive_any _ (HT.out _ (Below.refl _ _))).mono ?_
  rintro e w1 ⟨rfl, hB1⟩
  have HB1 := Lib.hid hB1
  clear hB1
  go_wp2_with fail
  refine (HF.out _ (HT.out _ HB1.out)).mono ?_
  rintro e w2 ⟨rfl, hB2⟩
  rw [← HF1.out]
  have HB2 := Lib.hid (HB1.out.trans (hB2.mono HB1.out.size))
  clear hB2
  go_wp2_with fail
  have p1 := heap_alloc_new w2 (.cells #[.int .i64 y, .int .i64 m, .int .i64 F1] 23)
  have P1 := Lib.hid p1
  clear p1
  refine (HL.out _ (HT.out _ (HB2.out.alloc HB2.out.size _))).mono ?_
  rintro e w3 ⟨rfl, hB3⟩
  rw [← HF1.out, ← HLL.out]
  have q1 := (hB3.block w2.heap.size (by simp)).trans P1.out
  have hB3' := (HB2.out.alloc HB2.out.size (.cells #[.int .i64 y, .int .i64 m, .int .i64 F1] 23)).trans (hB3.mono (by have := HB2.out.size; simp; omega))
  have HB3 := Lib.hid hB3'
  have Q1 := Lib.hid q1
  clear hB3 hB3' q1 P1
  go_wp2_with fail
  obtain ⟨LD, hLD⟩ : ∃ v, v = F1 + (L - F1) / 7 * 7 := ⟨_, rfl⟩
  rw [← hLD]
  have HLD := Lib.hid hLD
  clear hLD
  obtain ⟨X, hX⟩ : ∃ X, w3.alloc (.cells #[.int .i64 y, .int .i64 m, .int .i64 LD] 23) = X := ⟨_, rfl⟩
  have x1 : X.heap[w2.heap.size]? = some (.cells #[.int .i64 y, .int .i64 m, .int .i64 F1] 23 (0, 0)) := by rw [← hX]; exact heap_old Q1.out _
  have x2 : X.heap[w3.heap.size]? = some (.cells #[.int .i64 y, .int .i64 m, .int .i64 LD] 23 (0, 0)) := by rw [← hX]; exact heap_alloc_new _ _
  have x3 : Below w.heap.size w X := by rw [← hX]; exact HB3.out.alloc HB3.out.size _
  rw [hX]
  have X1 := Lib.hid x1
  have X2 := Lib.hid x2
  have X3 := Lib.hid x3
  clear x1 x2 x3 hX HB1 HB2 HB3 Q1 HF HL
  generalize w2.heap.size = b8 at *
  generalize w3.heap.size = b10 at *
  go_loopw [12, 13] (fun mv nv wr => ∃ k M : Int, 1 ≤ k ∧ k ≤ 6 ∧ nv = .int .i64 k ∧ mv = .int .i64 M ∧ (k ≤ 5 → M = k - 1) ∧ (k = 6 → M = T) ∧ wr.heap[b8]? = some (.cells #[.int .i64 y, .int .i64 m, .int .i64 F1] 23 (0, 0)) ∧ wr.heap[b10]? = some (.cells #[.int .i64 y, .int .i64 m, .int .i64 LD] 23 (0, 0)) ∧ Below w.heap.size w wr) (fun _ nv _ => 6 - (intOf nv).toNat)
  case atStart => exact ⟨1, 0, by omega, by omega, rfl, rfl, by omega, by omega, X1.out, X2.out, X3.out⟩
  case round =>
    obtain ⟨k, M, hk1, hk6, rfl, rfl, hM1, hM2, r1, r2, hB⟩ := hrel
    by_cases hk5 : k ≤ 5
    · have hM := hM1 hk5
      subst hM
      clear hM1 hM2 X1 X2 X3
      by_cases hok : F1 + 7 * (k - 1) ≤ L
      · have hok' : nthF y m wd + 7 * (k - 1) ≤ dlen y m := by rw [← HF1.out, ← HLL.out]; exact hok
        have hc := HK.out k hk1 hk5 hok' wr (HT.out _ hB)
        rw [nthD_eq _ _ _ _ hk1, ← HF1.out] at hc
        have hd := HDAY.out k hk1 hok'
        have hwk := HWK.out k hk1 hok'
        rw [HWE.out k hk1 hok'] at hwk
        rw [← HF1.out] at hd hwk
        obtain ⟨D, hD⟩ : ∃ D, D = F1 + 7 * (k - 1) := ⟨_, rfl⟩
        rw [← hD] at hc hd hwk
        obtain ⟨N, hN⟩ : ∃ N, N = dayOf y m D := ⟨_, rfl⟩
        rw [← hN] at hd hwk
        have HC := Lib.hid hc
        have HD := Lib.hid hd
        have HWK2 := Lib.hid hwk
        have R1 := Lib.hid r1
        have R2 := Lib.hid r2
        have HB := Lib.hid hB
        have HDE := Lib.hid hD
        have hDb : 1 ≤ D ∧ D ≤ 31 := by omega
        have g1 : (D != F1 + 7 * (k - 1)) = false := by simp [hD]
        have g2 : decide (D < 7 * k - 6) = false := decide_eq_false (by omega)
        have g3 : decide (7 * k < D) = false := decide_eq_false (by omega)
        have HOK := Lib.hid hok
        clear hc hd hwk r1 r2 hB hD hN hok hok'
        go_wp2_with fail
        refine HC.out.mono ?_
        rintro e w4 ⟨rfl, hB4⟩
        have s1 := (hB4.block b8 (Array.getElem?_eq_some_iff.1 R1.out).1).trans R1.out
        have s2 := (hB4.block b10 (Array.getElem?_eq_some_iff.1 R2.out).1).trans R2.out
        have s3 := HB.out.trans (hB4.mono HB.out.size)
        have S1 := Lib.hid (heap_old s1 (.cells #[.int .i64 y, .int .i64 m, .int .i64 D] 23))
        have S2 := Lib.hid (heap_old s2 (.cells #[.int .i64 y, .int .i64 m, .int .i64 D] 23))
        have S3 := Lib.hid (s3.alloc s3.size (.cells #[.int .i64 y, .int .i64 m, .int .i64 D] 23))
        have S4 := Lib.hid (heap_alloc_new w4 (.cells #[.int .i64 y, .int .i64 m, .int .i64 D] 23))
        clear s1 s2 s3 hB4 HC R1 R2 HB
        go_wp2_with fail
        refine (HD.out _ (HT.out _ S3.out)).mono ?_
        rintro e w5 ⟨rfl, hB5⟩
        have t1 := (hB5.block b8 (Array.getElem?_eq_some_iff.1 S1.out).1).trans S1.out
        have t2 := (hB5.block b10 (Array.getElem?_eq_some_iff.1 S2.out).1).trans S2.out
        have t3 := S3.out.trans (hB5.mono S3.out.size)
        have t4 := (hB5.block w4.heap.size (by simp)).trans S4.out
        have c8 : w5.cell? ⟨b8, 2, none⟩ = some (.int .i64 F1) := cell_of_row w5 _ 2 _ _ _ t1
        have cd : w5.cell? ⟨w4.heap.size, 2, none⟩ = some (.int .i64 D) := cell_of_row w5 _ 2 _ _ _ t4
        have T1 := Lib.hid t1
        have T2 := Lib.hid t2
        have T3 := Lib.hid t3
        clear t1 t2 t3 t4 hB5 S1 S2 S3 S4 HD
        go_wp2_with (go_at_call 20; refine (HWK2.out _).mono ?_; rintro e w' ⟨rfl, rfl⟩)
        go_roundw
        case rel =>
          have ht := HTU.out
          have ho := HOK.out
          exact ⟨k + 1, k, by omega, by omega, rfl, rfl, by omega, by omega, T1.out, T2.out, T3.out⟩
        case measure => simp [intOf]; omega
      · have hk : k = 5 := by omega
        subst hk
        have hc := HN.out (by rw [← HF1.out, ← HLL.out]; omega) wr (HT.out _ hB)
        have hT4 : T = 4 := by have := HTU.out; omega
        have HC := Lib.hid hc
        have R1 := Lib.hid r1
        have R2 := Lib.hid r2
        have HB := Lib.hid hB
        clear hc r1 r2 hB hok
        go_wp2_with fail
        refine HC.out.mono ?_
        rintro e w4 ⟨rfl, hB4⟩
        have s1 := (hB4.block b8 (Array.getElem?_eq_some_iff.1 R1.out).1).trans R1.out
        have s2 := (hB4.block b10 (Array.getElem?_eq_some_iff.1 R2.out).1).trans R2.out
        have s3 := HB.out.trans (hB4.mono HB.out.size)
        have S1 := Lib.hid (heap_old s1 (.cells #[.int .i64 0, .int .i64 0, .int .i64 0] 23))
        have S2 := Lib.hid (heap_old s2 (.cells #[.int .i64 0, .int .i64 0, .int .i64 0] 23))
        have S3 := Lib.hid (s3.alloc s3.size (.cells #[.int .i64 0, .int .i64 0, .int .i64 0] 23))
        clear s1 s2 s3 hB4 HC R1 R2 HB
        go_wp2
        go_roundw
        case rel => exact ⟨6, 4, by omega, by omega, rfl, rfl, by omega, by omega, S1.out, S2.out, S3.out⟩
        case measure => simp [intOf]
    · obtain rfl : k = 6 := by omega
      obtain rfl : M = T := hM2 rfl
      have hT45 : M = 4 ∨ M = 5 := by have := HTU.out; omega
      have hLM : LD = F1 + 7 * (M - 1) := by have := HTU.out; have := HLD.out; omega
      have hLL7 : L < LD + 7 := by have := HLD.out; omega
      have hg1 : (LD == F1 + 7 * (M - 1)) = true := by simp [hLM]
      have hg2 : decide (L < LD + 7) = true := decide_eq_true hLL7
      have hLDb : 1 ≤ LD ∧ LD ≤ 31 := by have := HLD.out; omega
      have c8 : wr.cell? ⟨b8, 2, none⟩ = some (.int .i64 F1) := cell_of_row wr _ 2 _ _ _ r1
      have c10 : wr.cell? ⟨b10, 2, none⟩ = some (.int .i64 LD) := cell_of_row wr _ 2 _ _ _ r2
      have hcd := fun j => HDS.out (wr.drewN j) ((HT.out _ hB).drewN j)
      rw [← HLL.out] at hcd
      have HCD := Lib.hid hcd
      have HB := Lib.hid hB
      have HM45 := Lib.hid hT45
      clear hcd hB r1 r2 hM1 hM2 hLM hLL7 hT45 HDS HK HN HDAY HWK HWE HTU X1 X2 X3 HLD
      rcases HM45.out with rfl | rfl
      · have hg3 : (LD == F1 + 21) = true := by simpa using hg1
        clear hg1
        go_wp2_with fail
        go_quiet ((go_at_call 18; exact Calls.quiet_of_same ((HCD.out _).mono fun _ _ h => ⟨h.1, h.2.symm⟩)))
        go_wp2
        go_ret
        exact ⟨rfl, below_drewN HB.out _⟩
      · have hg3 : (LD == F1 + 28) = true := by simpa using hg1
        clear hg1
        go_wp2_with fail
        go_quiet ((go_at_call 18; exact Calls.quiet_of_same ((HCD.out _).mono fun _ _ h => ⟨h.1, h.2.symm⟩)))
        go_wp2
        go_ret
        exact ⟨rfl, below_drewN HB.out _⟩
theorem nths_any (y m wd : Int) (w : World) (hT : Tabs w) :
    Calls Tryd.prog 9 #[.int .i64 y, .int .i64 m, .int .i64 wd] w fun e w' => e = .returned (.bool true) ∧ Below w.heap.size w w' := by
  by_cases h : NthIs y m wd 1
  · exact nths_good y m wd h w hT
  · exact nths_bad y m wd h w hT
end Go.Proofs.YtjlejpenegjbcaaDoor
