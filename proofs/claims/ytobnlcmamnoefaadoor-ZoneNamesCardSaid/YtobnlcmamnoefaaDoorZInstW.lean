/- Contract of the document's function Instants. -/
import Derived.Test.YtobnlcmamnoefaaDoorZInst
import Derived.Deep.CutBlock
import Derived.Deep.DeepCutAuto
set_option linter.unusedVariables false
set_option linter.unusedSimpArgs false
namespace Go.Proofs.YtobnlcmamnoefaaDoor
open Go.RowKit Go.Shelf
set_option maxRecDepth 100000 in
set_option maxHeartbeats 8000000 in
theorem rinst_any (off loc : Int) (a : Option Addr) (len cap : Nat) (R : Nat → Rl) (w : World) (hR : RulesAt w.heap.size w a len R) (hz : ZoneIs off R len) (h0 : 0 ≤ loc) (h1 : loc < 253402300800) :
    Calls Tryd.prog 24 #[zoneV off a len cap, .int .i64 loc] w fun e w' => (∃ A c, e = .returned (.slice A (runI off R len loc (len + 1) []).length c) ∧ BysI w'.heap.size w' (.slice A (runI off R len loc (len + 1) []).length c) (runI off R len loc (len + 1) [])) ∧ Below w.heap.size w w' := by
  have hb0 := (Below.refl _ w).alloc (Nat.le_refl _) (.cells #[.int .i64 off, .slice a len cap] 24)
  have hr := heap_alloc_new w (.cells #[.int .i64 off, .slice a len cap] 24)
  have HRW := Lib.hid (show ∀ X, Below w.heap.size w X → RulesAt X.heap.size X a len R from fun X hX => (hR.next hX).mono hX.size)
  have HR := Lib.hid hR
  have HZ := Lib.hid hz
  have HB0 := Lib.hid hb0
  have G0 := Lib.hid hr
  have hl20 : (len : Int) ≤ 20 := by have := hz.2.1; omega
  have o0 := hz.1.1
  have o1 := hz.1.2
  obtain ⟨T0, hT0⟩ : ∃ T, T = runI off R len loc (len + 1) [] := ⟨_, rfl⟩
  rw [← hT0]
  have HT0 := Lib.hid hT0
  clear hb0 hr hR hz hT0
  go_enter Tryd.func24, Tryd.ntmps24
  go_wp2
  obtain ⟨W0, hW0⟩ : ∃ X, X = w.alloc (.cells #[.int .i64 off, .slice a len cap] 24) := ⟨_, rfl⟩
  have hs0 : w.heap.size < W0.heap.size := by rw [hW0]; simp
  rw [← hW0] at HB0 G0 ⊢
  clear hW0
  go_loopw [5, 6] (fun v i wr => ∃ (j : Nat) (xs : List Int), (j : Int) ≤ len + 1 ∧ i = .int .i64 ((j : Int) - 1) ∧ OwnI W0.heap.size wr v xs ∧ xs.length + j ≤ len + 1 ∧ runI off R len loc j xs = T0 ∧ Below W0.heap.size W0 wr) (fun _ i _ => (intOf i + 1).toNat)
  case atStart => exact ⟨len + 1, [], by omega, by simp, OwnI.nil _ _, by simp, HT0.out.symm, Below.refl _ _⟩
  case round =>
    obtain ⟨j, xs, hj, rfl, hO, hlen, hrun, hBw⟩ := hrel
    obtain ⟨av, cv, rfl⟩ := hO.form
    have HO := Lib.hid hO
    have HBW := Lib.hid hBw
    have HLEN := Lib.hid hlen
    have HRUN := Lib.hid hrun
    have hgw := (hBw.block w.heap.size hs0).trans G0.out
    have c0 : wr.cell? ⟨w.heap.size, 0, none⟩ = some (.int .i64 off) := cell_of_row wr _ 0 _ _ _ hgw
    have c1 : wr.cell? ⟨w.heap.size, 1, none⟩ = some (.slice a len cap) := cell_of_row wr _ 1 _ _ _ hgw
    have GW := Lib.hid hgw
    have hbw0 := HB0.out.trans (hBw.mono (Nat.le_of_lt hs0))
    have HBF := Lib.hid hbw0
    clear hO hBw hlen hrun hgw hbw0
    rcases Nat.eq_zero_or_pos j with rfl | hj0
    · go_wp2
      go_ret
      have hr0 := HRUN.out
      simp only [runI] at hr0
      rw [← hr0]
      exact ⟨⟨av, cv, rfl, HO.out.bys⟩, HBF.out⟩
    · obtain ⟨k, rfl⟩ : ∃ k, j = k + 1 := ⟨j - 1, by omega⟩
      clear hj0
      rw [show ((k + 1 : Nat) : Int) - 1 = (k : Int) by omega]
      have hkl : (k : Int) ≤ len := by omega
      clear hj
      have hg0 : decide ((0 : Int) ≤ (k : Int)) = true := decide_eq_true (by omega)
      obtain ⟨N, hN⟩ : ∃ N, N = nK off R k := ⟨_, rfl⟩
      have HN := Lib.hid hN
      have hNb : -50400 ≤ N ∧ N ≤ 57600 := by
        rw [hN]
        unfold nK
        by_cases hk0 : k = 0
        · rw [if_pos hk0]; omega
        · rw [if_neg hk0]
          have := (HZ.out.2.2 (k - 1) (by omega)).2.1
          omega
      go_upto_if 23 with fail
      go_cut [7] from 24 to 32 (fun c wx => c = .int .i64 N ∧ wx = wr)
      case first =>
        rcases Nat.eq_zero_or_pos k with rfl | hk0
        · have hN0 : N = off := by rw [hN]; simp [nK]
          subst hN0
          go_wp2_with fail
          go_meet
          exact ⟨rfl, rfl⟩
        · obtain ⟨q, rfl⟩ : ∃ q, k = q + 1 := ⟨k - 1, by omega⟩
          obtain ⟨b, o, rfl, hb, hrl⟩ := HRW.out _ HBF.out q (by omega)
          have r10 := hrl.2.2.2.2.2.2.2.2.2.2
          have hxr := (HZ.out.2.2 q (by omega)).2.1
          have hN1 : N = off + (R q).x := by rw [hN]; simp [nK]
          obtain ⟨x, hx⟩ : ∃ x, x = (R q).x := ⟨_, rfl⟩
          rw [← hx] at r10 hN1 hxr
          obtain ⟨x1, x2⟩ := hxr
          have hq1 : ((q + 1 : Nat) : Int) - 1 = q := by omega
          have hql : (q : Int) < len := by omega
          clear hN hx hrl
          subst hN1
          go_wp2_with fail
          go_meet
          exact ⟨rfl, rfl⟩
      obtain ⟨rfl, hwx⟩ := hcut
      subst wc
      obtain ⟨T, hT⟩ : ∃ T, loc - N = T := ⟨_, rfl⟩
      have hTb : -57600 ≤ T ∧ T ≤ 253402351200 := by omega
      have HTT := Lib.hid hT
      have HMISS := Lib.hid (show ¬ (OffIs off R len T ∧ offT off R len T = N) → stepI off R len loc k xs = xs from fun h => by
        unfold stepI
        rw [if_neg (fun hk => h (by have hk2 := hk; unfold hitK at hk2; rw [← HN.out, HTT.out] at hk2; exact hk2))])
      have HHIT := Lib.hid (show (OffIs off R len T ∧ offT off R len T = N) → stepI off R len loc k xs = insI xs T from fun h => by
        unfold stepI
        rw [if_pos (by unfold hitK; rw [← HN.out, HTT.out]; exact h), ← HN.out, HTT.out])
      clear hN
      rcases roffset_any off T a len cap R wr (HRW.out _ HBF.out) HZ.out with ⟨hoff, hcall⟩ | ⟨hoff, hcall⟩
      · have HOFF := Lib.hid hoff
        obtain ⟨O, hO⟩ : ∃ O, O = offT off R len T := ⟨_, rfl⟩
        rw [show nOf off R len (yearI (T + off)) (T + off) = O from hO.symm] at hcall
        have HOO := Lib.hid hO
        have HCALL := Lib.hid hcall
        clear hcall hoff hO
        go_wp2_with fail
        refine HCALL.out.mono ?_
        rintro e w1 ⟨rfl, hB1⟩
        have hbf1 := HBF.out.trans (hB1.mono HBF.out.size)
        have hbw1 := HBW.out.trans (hB1.mono HBW.out.size)
        have ho1 := HO.out.below hB1 (Nat.le_refl _)
        have HBF1 := Lib.hid hbf1
        have HBW1 := Lib.hid hbw1
        have HO1 := Lib.hid ho1
        clear hB1 hbf1 hbw1 ho1 HCALL c0 c1
        by_cases hon : O = N
        · have gon : (O != N) = false := by simp [hon]
          have HON := Lib.hid hon
          clear hon
          have hxl : (xs.length : Int) ≤ 21 := by have := HLEN.out; omega
          go_upto_block 2 with fail
          go_cut [11] from 49 to 62 (fun c wx => c = .int .i64 (placeI xs T : Nat) ∧ wx = w1)
          case first =>
            go_wp2_with fail
            go_loopw [11] (fun i wi => ∃ p : Nat, p ≤ xs.length ∧ i = .int .i64 p ∧ (∀ q, q < p → xs.getD q 0 < T) ∧ w1 = wi) (fun i _ => (xs.length - intOf i).toNat)
            case atStart => exact ⟨0, Nat.zero_le _, rfl, fun q hq => absurd hq (Nat.not_lt_zero _), rfl⟩
            case round =>
              obtain ⟨p, hp, rfl, hlow, rfl⟩ := hrel
              have HLOW := Lib.hid hlow
              clear hlow
              by_cases hlt : p < xs.length
              · obtain ⟨g, rfl, hcell⟩ := own_cell HO1.out p hlt
                have hpi : (p : Int) < (xs.length : Int) := by omega
                obtain ⟨y, hy⟩ : ∃ y, y = xs.getD p 0 := ⟨_, rfl⟩
                rw [← hy] at hcell
                have HY := Lib.hid hy
                clear hy
                by_cases hyt : y < T
                · have gy : decide (y < T) = true := decide_eq_true hyt
                  have HYT := Lib.hid hyt
                  go_wp2_with fail
                  go_roundw
                  case rel => exact ⟨p + 1, by omega, by simp, fun q hq => by
                      by_cases hqp : q = p
                      · subst hqp; rw [← HY.out]; exact HYT.out
                      · exact HLOW.out q (by omega), trivial⟩
                  case measure => first | (simp [intOf]; done) | (simp [intOf]; omega)
                · have gy : decide (y < T) = false := decide_eq_false hyt
                  have hpl := place_is hp HLOW.out (.inr (by rw [← HY.out]; exact hyt))
                  have HPL := Lib.hid hpl
                  clear hpl
                  go_wp2_with fail
                  go_meet
                  exact ⟨by rw [HPL.out], rfl⟩
              · have hpe : p = xs.length := by omega
                have hpl := place_is hp HLOW.out (.inl hpe)
                have HPL := Lib.hid hpl
                have HPE := Lib.hid hpe
                have gpl : decide ((p : Int) < (xs.length : Int)) = false := decide_eq_false (by omega)
                clear hpl hpe
                go_wp2_with fail
                go_meet
                exact ⟨by rw [HPL.out], rfl⟩
          obtain ⟨rfl, hwx⟩ := hcut
          subst wc
          obtain ⟨P, hP⟩ : ∃ P, P = placeI xs T := ⟨_, rfl⟩
          have hPle : P ≤ xs.length := by rw [hP]; exact placeI_le _ _
          rw [← hP]
          have HPP := Lib.hid hP
          clear hP
          by_cases hlt : P < xs.length
          · obtain ⟨g, rfl, hcell⟩ := own_cell HO1.out P hlt
            have hpi : (P : Int) < (xs.length : Int) := by omega
            have hdp : decide ((P : Int) < (xs.length : Int)) = true := decide_eq_true hpi
            obtain ⟨y, hy⟩ : ∃ y, y = xs.getD P 0 := ⟨_, rfl⟩
            rw [← hy] at hcell
            have HY := Lib.hid hy
            clear hy
            by_cases hyt : y = T
            · have gy : (y == T) = true := by simp [hyt]
              have HYT := Lib.hid hyt
              clear hyt
              go_wp2_with fail
              go_roundw
              case rel =>
                refine ⟨k, xs, by omega, rfl, HO1.out, by have := HLEN.out; omega, ?_, HBW1.out⟩
                have := HRUN.out
                simp only [runI] at this
                rw [HHIT.out ⟨HOFF.out, by rw [← HOO.out]; exact HON.out⟩] at this
                unfold insI at this
                rw [← HPP.out, if_pos ⟨hlt, by rw [← HY.out]; exact HYT.out⟩] at this
                exact this
              case measure => first | (simp [intOf]; done) | (simp [intOf]; omega)
            · have gy : (y == T) = false := by simp [hyt]
              have HNE := Lib.hid (show ¬ (P < xs.length ∧ xs.getD P 0 = T) from fun h => hyt (by rw [HY.out]; exact h.2))
              clear hyt
              have HS1 := Lib.hid (slice_to w1 (some ⟨g, 0, none⟩) xs.length cv P (Nat.le_trans hPle HO1.out.cap))
              have hs1 := HS1.out
              have hbt := HO1.out.bys.take P hPle
              have hb1s : W0.heap.size ≤ w1.heap.size := HBW1.out.size
              obtain ⟨ys, hys⟩ : ∃ l, l = [] ++ xs.take P := ⟨_, rfl⟩
              have hyl : ys.length ≤ 21 := by rw [hys]; simp; omega
              have HYS := Lib.hid hys
              clear hys
              go_upto_region 17 with (first | (at_builtin; refine wpList_bappI rfl (.tmp 75) (.tmp 78) rfl w1.heap.size (.slice none 0 0) [] rfl (OwnI.nil _ _) w1.heap.size (some ⟨g, 0, none⟩) P cv (xs.take P) rfl hbt (by simp; omega) (Nat.le_refl _) ?_; intro a2 c2 w2 hO2 hB2; rw [← HYS.out] at hO2 ⊢) | fail)
              clear hs1 hbt
              have hoa : OwnI w1.heap.size (w2.alloc (.cells #[.int .i64 T] 2)) (.slice a2 ys.length c2) ys := hO2.below ((Below.refl _ _).alloc (Nat.le_refl _) _) (Nat.le_refl _)
              have hbo := bysI_alloc (T := 2) w2 [T] (by intro z hz; simp at hz; subst hz; omega) #[.int .i64 T] rfl 1 1 rfl (0, 0)
              have hba := hB2.alloc hB2.size (.cells #[.int .i64 T] 2)
              have hsz2 : w1.heap.size ≤ (w2.alloc (.cells #[.int .i64 T] 2)).heap.size := hba.size
              obtain ⟨zs, hzs⟩ : ∃ l, l = ys ++ [T] := ⟨_, rfl⟩
              have hzl : zs.length ≤ 22 := by rw [hzs]; simp; omega
              have HZS := Lib.hid hzs
              clear hzs
              go_upto_region 18 with (first | (at_builtin; refine wpList_bappI rfl (.tmp 80) (.tmp 82) rfl w1.heap.size _ ys rfl hoa _ (some ⟨w2.heap.size, 0, none⟩) 1 1 [T] rfl hbo (by simp; omega) hsz2 ?_; intro a3 c3 w3 hO3 hB3; rw [← HZS.out] at hO3 ⊢) | fail)
              have hb3 := hba.trans hB3
              have ho3 := HO1.out.below hb3 (Nat.le_refl _)
              obtain ⟨A, m, c', hs2, hbd⟩ := slice_from ho3 rfl P hPle
              have hdl : (xs.drop P).length ≤ 21 := by simp; omega
              have HB3 := Lib.hid hb3
              clear hoa hbo hba hB2 hB3 hO2 hb3 ho3
              obtain ⟨us, hus⟩ : ∃ l, l = zs ++ xs.drop P := ⟨_, rfl⟩
              have HUS := Lib.hid hus
              clear hus
              go_wp2_with (first | (at_builtin; refine wpList_bappI rfl (.tmp 84) (.tmp 87) rfl w1.heap.size _ zs rfl hO3 _ A m c' (xs.drop P) rfl hbd (by omega) HB3.out.size ?_; intro a4 c4 w4 hO4 hB4; rw [← HUS.out] at hO4 ⊢) | fail)
              go_roundw
              case rel =>
                refine ⟨k, us, by omega, rfl, hO4.le hb1s, ?_, ?_, HBW1.out.trans ((HB3.out.trans hB4).mono hb1s)⟩
                · have := HLEN.out
                  rw [HUS.out, HZS.out, HYS.out]
                  simp
                  omega
                · have := HRUN.out
                  simp only [runI] at this
                  rw [HHIT.out ⟨HOFF.out, by rw [← HOO.out]; exact HON.out⟩] at this
                  unfold insI at this
                  rw [← HPP.out, if_neg HNE.out] at this
                  rw [HUS.out, HZS.out, HYS.out, List.nil_append]
                  exact this
              case measure => first | (simp [intOf]; done) | (simp [intOf]; omega)
          · have hdp : decide ((P : Int) < (xs.length : Int)) = false := decide_eq_false (by omega)
            have HNE := Lib.hid (show ¬ (P < xs.length ∧ xs.getD P 0 = T) from fun h => hlt h.1)
            have hdn : decide (P < xs.length) = false := decide_eq_false hlt
            have HS1 := Lib.hid (slice_to w1 av xs.length cv P (Nat.le_trans hPle HO1.out.cap))
            have hs1 := HS1.out
            have hbt := HO1.out.bys.take P hPle
            have hb1s : W0.heap.size ≤ w1.heap.size := HBW1.out.size
            obtain ⟨ys, hys⟩ : ∃ l, l = [] ++ xs.take P := ⟨_, rfl⟩
            have hyl : ys.length ≤ 21 := by rw [hys]; simp; omega
            have HYS := Lib.hid hys
            clear hys
            go_upto_region 17 with (first | (at_builtin; refine wpList_bappI rfl (.tmp 75) (.tmp 78) rfl w1.heap.size (.slice none 0 0) [] rfl (OwnI.nil _ _) w1.heap.size av P cv (xs.take P) rfl hbt (by simp; omega) (Nat.le_refl _) ?_; intro a2 c2 w2 hO2 hB2; rw [← HYS.out] at hO2 ⊢) | fail)
            clear hs1 hbt
            have hoa : OwnI w1.heap.size (w2.alloc (.cells #[.int .i64 T] 2)) (.slice a2 ys.length c2) ys := hO2.below ((Below.refl _ _).alloc (Nat.le_refl _) _) (Nat.le_refl _)
            have hbo := bysI_alloc (T := 2) w2 [T] (by intro z hz; simp at hz; subst hz; omega) #[.int .i64 T] rfl 1 1 rfl (0, 0)
            have hba := hB2.alloc hB2.size (.cells #[.int .i64 T] 2)
            have hsz2 : w1.heap.size ≤ (w2.alloc (.cells #[.int .i64 T] 2)).heap.size := hba.size
            obtain ⟨zs, hzs⟩ : ∃ l, l = ys ++ [T] := ⟨_, rfl⟩
            have hzl : zs.length ≤ 22 := by rw [hzs]; simp; omega
            have HZS := Lib.hid hzs
            clear hzs
            go_upto_region 18 with (first | (at_builtin; refine wpList_bappI rfl (.tmp 80) (.tmp 82) rfl w1.heap.size _ ys rfl hoa _ (some ⟨w2.heap.size, 0, none⟩) 1 1 [T] rfl hbo (by simp; omega) hsz2 ?_; intro a3 c3 w3 hO3 hB3; rw [← HZS.out] at hO3 ⊢) | fail)
            have hb3 := hba.trans hB3
            have ho3 := HO1.out.below hb3 (Nat.le_refl _)
            obtain ⟨A, m, c', hs2, hbd⟩ := slice_from ho3 rfl P hPle
            have hdl : (xs.drop P).length ≤ 21 := by simp; omega
            have HB3 := Lib.hid hb3
            clear hoa hbo hba hB2 hB3 hO2 hb3 ho3
            obtain ⟨us, hus⟩ : ∃ l, l = zs ++ xs.drop P := ⟨_, rfl⟩
            have HUS := Lib.hid hus
            clear hus
            go_wp2_with (first | (at_builtin; refine wpList_bappI rfl (.tmp 84) (.tmp 87) rfl w1.heap.size _ zs rfl hO3 _ A m c' (xs.drop P) rfl hbd (by omega) HB3.out.size ?_; intro a4 c4 w4 hO4 hB4; rw [← HUS.out] at hO4 ⊢) | fail)
            go_roundw
            case rel =>
              refine ⟨k, us, by omega, rfl, hO4.le hb1s, ?_, ?_, HBW1.out.trans ((HB3.out.trans hB4).mono hb1s)⟩
              · have := HLEN.out
                rw [HUS.out, HZS.out, HYS.out]
                simp
                omega
              · have := HRUN.out
                simp only [runI] at this
                rw [HHIT.out ⟨HOFF.out, by rw [← HOO.out]; exact HON.out⟩] at this
                unfold insI at this
                rw [← HPP.out, if_neg HNE.out] at this
                rw [HUS.out, HZS.out, HYS.out, List.nil_append]
                exact this
            case measure => first | (simp [intOf]; done) | (simp [intOf]; omega)
        · have gon : (O != N) = true := by simp [hon]
          have HON := Lib.hid hon
          clear hon
          go_wp2_with fail
          go_roundw
          case rel =>
            refine ⟨k, xs, by omega, rfl, HO1.out, by have := HLEN.out; omega, ?_, HBW1.out⟩
            have := HRUN.out
            simp only [runI] at this
            rw [HMISS.out (fun h => HON.out (by rw [HOO.out]; exact h.2))] at this
            exact this
          case measure => first | (simp [intOf]; done) | (simp [intOf]; omega)
      · have HOFF := Lib.hid hoff
        have HCALL := Lib.hid hcall
        clear hcall hoff
        go_wp2_with fail
        refine HCALL.out.mono ?_
        rintro e w1 ⟨rfl, hB1⟩
        have hbw1 := HBW.out.trans (hB1.mono HBW.out.size)
        have ho1 := HO.out.below hB1 (Nat.le_refl _)
        have HBW1 := Lib.hid hbw1
        have HO1 := Lib.hid ho1
        clear hB1 hbw1 ho1 HCALL c0 c1
        go_wp2_with fail
        go_roundw
        case rel =>
          refine ⟨k, xs, by omega, rfl, HO1.out, by have := HLEN.out; omega, ?_, HBW1.out⟩
          have := HRUN.out
          simp only [runI] at this
          rw [HMISS.out (fun h => HOFF.out h.1)] at this
          exact this
        case measure => first | (simp [intOf]; done) | (simp [intOf]; omega)
end Go.Proofs.YtobnlcmamnoefaaDoor
