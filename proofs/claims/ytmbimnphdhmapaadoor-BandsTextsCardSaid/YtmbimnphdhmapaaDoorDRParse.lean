/- The document's Parse. -/
import Derived.Test.YtmbimnphdhmapaaDoorDRun
set_option linter.unusedVariables false
set_option linter.unusedSimpArgs false
namespace Go.Proofs.YtmbimnphdhmapaaDoor
open Go.RowKit Go.Shelf
theorem OwnS.kept9 {base : Nat} {w w' : World} {v : Value} {xs : List Sw} (h : OwnS base w v xs) (hb : ∀ k, base ≤ k → w'.heap[k]? = w.heap[k]?) : OwnS base w' v xs := by
  refine ⟨h.1, ?_⟩
  rcases h.2 with e | ⟨g, cap, cur, rfl, hg, hh, r⟩
  · exact .inl e
  · exact .inr ⟨g, cap, cur, rfl, hg, (hb g hg).trans hh, r⟩
def RParseE (B : Nat) (l : List UInt8) (e : Ending) (w' : World) : Prop := (∃ v xs, e = .returned (.tuple #[v, .int .i64 0]) ∧ OwnS B w' v xs ∧ PlanL xs ∧ l = textL xs) ∨ (e = .returned (.tuple #[.slice none 0 0, .int .i64 90]) ∧ ∀ xs, PlanL xs → l ≠ textL xs)
set_option maxRecDepth 100000 in
set_option maxHeartbeats 8000000 in
theorem rParse_any (s : ByteArray) (hs : s.size ≤ 600) (w : World) : Calls Tryd.prog 10 #[.string s] w fun e w' => RParseE (w.heap.size + 1) s.data.toList e w' ∧ Below w.heap.size w w' := by
  have HX0 := Lib.hid (heap_alloc_new w (.cells #[.int .i64 0, .int .i64 0] 55))
  have HB0 := Lib.hid ((Below.refl _ w).alloc (Nat.le_refl _) (.cells #[.int .i64 0, .int .i64 0] 55))
  have hll : s.data.toList.length = s.size := by simp
  go_enter Tryd.func10, Tryd.ntmps10
  go_wp2_with fail
  go_loopw [4, 6, 7] (fun v4 v6 v7 wr => ∃ (k : Nat) (st : PS), k ≤ s.size + 1 ∧ v7 = .int .i64 k ∧ v6 = .bool st.sec ∧ runP init0 ((s.data.toList ++ [32]).take k) = some st ∧ OwnS (w.heap.size + 1) wr v4 st.out ∧ wr.heap[w.heap.size]? = some (.cells #[.int .i64 st.x.m, .int .i64 st.x.b] 55 (0, 0)) ∧ Bnd st ∧ st.out.length ≤ k ∧ Below w.heap.size w wr) (fun _ _ v7 _ => (s.size + 1 - intOf v7).toNat)
  case atStart => exact ⟨0, init0, Nat.zero_le _, rfl, rfl, rfl, OwnS.nil _ _, HX0.out, ⟨⟨by decide, by decide⟩, by decide, by decide⟩, by simp [init0], HB0.out⟩
  case round =>
    obtain ⟨k, ⟨out, ⟨m, b⟩, sc⟩, hk, rfl, rfl, hrun, hO, hx, ⟨⟨hm0, hm1⟩, hb0, hb1⟩, hlen, hb⟩ := hrel
    obtain ⟨va, vc, rfl⟩ := hO.form
    simp only at hx hm0 hm1 hb0 hb1 hlen hO
    have HO := Lib.hid hO
    have HX := Lib.hid hx
    have HB := Lib.hid hb
    have c0 : wr.cell? ⟨w.heap.size, 0, none⟩ = some (.int .i64 m) := cell_of_row _ _ 0 _ _ _ hx
    have c1 : wr.cell? ⟨w.heap.size, 1, none⟩ = some (.int .i64 b) := cell_of_row _ _ 1 _ _ _ hx
    have q0 := frozen_of_row _ _ 0 _ _ hx
    have q1 := frozen_of_row _ _ 1 _ _ hx
    have hwr : w.heap.size + 1 ≤ wr.heap.size := (Array.getElem?_eq_some_iff.1 hx).1
    clear hO hx hb
    by_cases hlt : k ≤ s.size
    · have hlti : (k : Int) ≤ s.size := by omega
      by_cases hkn : k = s.size
      · have g1 : ((k : Int) == (s.size : Int)) = true := by simp [hkn]
        have HNX := Lib.hid ((run_next (c := 32) hrun (by rw [List.getElem?_append_right (by omega), hll, hkn]; simp)).trans (show stepP ⟨out, ⟨m, b⟩, sc⟩ 32 = some ⟨out ++ [⟨m, b⟩], ⟨0, 0⟩, false⟩ from rfl))
        clear hrun
        have hoa := HO.out.below ((Below.refl wr.heap.size wr).alloc (Nat.le_refl _) (.cells #[.int .i64 m, .int .i64 b] 55)) (Nat.le_refl _)
        have hr := heap_alloc_new wr (.cells #[.int .i64 m, .int .i64 b] 55)
        have HOA := Lib.hid hoa
        have R0 := Lib.hid (cell_of_row _ _ 0 _ _ _ hr)
        have R1 := Lib.hid (cell_of_row _ _ 1 _ _ _ hr)
        have HXA := Lib.hid (heap_old HX.out (.cells #[.int .i64 m, .int .i64 b] 55))
        have HSA : Hid ((wr.alloc (.cells #[.int .i64 m, .int .i64 b] 55)).heap.size = wr.heap.size + 1) := Lib.hid (World.size_alloc _ _)
        have HBA := Lib.hid (HB.out.alloc HB.out.size (.cells #[.int .i64 m, .int .i64 b] 55))
        clear hoa hr
        go_wp2_with (first | (at_builtin; refine wpList_bappS rfl (.tmp 28) (.tmp 30) rfl (w.heap.size + 1) _ out rfl HOA.out wr.heap.size ⟨m, b⟩ rfl R0.out R1.out (by omega) (by rw [HSA.out]; omega) ?_; intro a2 c2 w2 hO2 hB2; have hx2 := (hB2.block w.heap.size (by omega)).trans HXA.out; have e0 : w2.cell? ⟨w.heap.size, 0, none⟩ = some (.int .i64 m) := cell_of_row _ _ 0 _ _ _ hx2; have e1 : w2.cell? ⟨w.heap.size, 1, none⟩ = some (.int .i64 b) := cell_of_row _ _ 1 _ _ _ hx2; have f0 := frozen_of_row _ _ 0 _ _ hx2; have f1 := frozen_of_row _ _ 1 _ _ hx2))
        rw [show (out ++ [(⟨m, b⟩ : Sw)]).length = out.length + 1 by simp] at hO2
        have HO2 := Lib.hid (show OwnS (w.heap.size + 1) w2 (.slice a2 (out.length + 1) c2) (out ++ [⟨m, b⟩]) from hO2)
        have HX2 := Lib.hid hx2
        have HB2 := Lib.hid (HBA.out.trans (hB2.mono (Nat.le_succ _)))
        clear hO2 hB2 hx2
        go_wp2
        go_roundw
        case rel => exact ⟨k + 1, ⟨out ++ [⟨m, b⟩], ⟨0, 0⟩, false⟩, by omega, by go_num, rfl, HNX.out, HO2.out.kept9 (fun q hq => (heap_setCell_other _ ⟨w.heap.size, 1, none⟩ q _ (by show q ≠ w.heap.size; omega)).trans (heap_setCell_other _ ⟨w.heap.size, 0, none⟩ q _ (by show q ≠ w.heap.size; omega))), set2 HX2.out _ _, ⟨⟨by simp, by simp⟩, by simp, by simp⟩, by simp; omega, (HB2.out.setCell (p := ⟨w.heap.size, 0, none⟩) (Nat.le_refl _) _).setCell (p := ⟨w.heap.size, 1, none⟩) (Nat.le_refl _) _⟩
        case measure => first | (simp [intOf]; done) | (simp [intOf]; omega)
      · have g1 : ((k : Int) == (s.size : Int)) = false := by simp; omega
        have hlt' : k < s.size := by omega
        have hnext := run_next (c := s[k]) hrun (by rw [List.getElem?_append_left (by omega)]; rw [List.getElem?_eq_getElem (by omega)]; simp [ByteArray.getElem_eq_getElem_data])
        clear hrun
        by_cases h32 : s[k] = 32
        · have g2 : ((s[k].toNat : Int) == 32) = true := by rw [h32]; rfl
          have HNX := Lib.hid (hnext.trans (show stepP ⟨out, ⟨m, b⟩, sc⟩ s[k] = some ⟨out ++ [⟨m, b⟩], ⟨0, 0⟩, false⟩ by rw [h32]; rfl))
          clear hnext h32
          have hoa := HO.out.below ((Below.refl wr.heap.size wr).alloc (Nat.le_refl _) (.cells #[.int .i64 m, .int .i64 b] 55)) (Nat.le_refl _)
          have hr := heap_alloc_new wr (.cells #[.int .i64 m, .int .i64 b] 55)
          have HOA := Lib.hid hoa
          have R0 := Lib.hid (cell_of_row _ _ 0 _ _ _ hr)
          have R1 := Lib.hid (cell_of_row _ _ 1 _ _ _ hr)
          have HXA := Lib.hid (heap_old HX.out (.cells #[.int .i64 m, .int .i64 b] 55))
          have HSA : Hid ((wr.alloc (.cells #[.int .i64 m, .int .i64 b] 55)).heap.size = wr.heap.size + 1) := Lib.hid (World.size_alloc _ _)
          have HBA := Lib.hid (HB.out.alloc HB.out.size (.cells #[.int .i64 m, .int .i64 b] 55))
          clear hoa hr
          go_wp2_with (first | (at_builtin; refine wpList_bappS rfl (.tmp 28) (.tmp 30) rfl (w.heap.size + 1) _ out rfl HOA.out wr.heap.size ⟨m, b⟩ rfl R0.out R1.out (by omega) (by rw [HSA.out]; omega) ?_; intro a2 c2 w2 hO2 hB2; have hx2 := (hB2.block w.heap.size (by omega)).trans HXA.out; have e0 : w2.cell? ⟨w.heap.size, 0, none⟩ = some (.int .i64 m) := cell_of_row _ _ 0 _ _ _ hx2; have e1 : w2.cell? ⟨w.heap.size, 1, none⟩ = some (.int .i64 b) := cell_of_row _ _ 1 _ _ _ hx2; have f0 := frozen_of_row _ _ 0 _ _ hx2; have f1 := frozen_of_row _ _ 1 _ _ hx2))
          rw [show (out ++ [(⟨m, b⟩ : Sw)]).length = out.length + 1 by simp] at hO2
          have HO2 := Lib.hid (show OwnS (w.heap.size + 1) w2 (.slice a2 (out.length + 1) c2) (out ++ [⟨m, b⟩]) from hO2)
          have HX2 := Lib.hid hx2
          have HB2 := Lib.hid (HBA.out.trans (hB2.mono (Nat.le_succ _)))
          clear hO2 hB2 hx2
          go_wp2
          go_roundw
          case rel => exact ⟨k + 1, ⟨out ++ [⟨m, b⟩], ⟨0, 0⟩, false⟩, by omega, by go_num, rfl, HNX.out, HO2.out.kept9 (fun q hq => (heap_setCell_other _ ⟨w.heap.size, 1, none⟩ q _ (by show q ≠ w.heap.size; omega)).trans (heap_setCell_other _ ⟨w.heap.size, 0, none⟩ q _ (by show q ≠ w.heap.size; omega))), set2 HX2.out _ _, ⟨⟨by simp, by simp⟩, by simp, by simp⟩, by simp; omega, (HB2.out.setCell (p := ⟨w.heap.size, 0, none⟩) (Nat.le_refl _) _).setCell (p := ⟨w.heap.size, 1, none⟩) (Nat.le_refl _) _⟩
          case measure => first | (simp [intOf]; done) | (simp [intOf]; omega)
        · have hn32 : s[k].toNat ≠ 32 := fun e => h32 (UInt8.toNat_inj.1 e)
          have g2 : ((s[k].toNat : Int) == 32) = false := by simp; omega
          by_cases h58 : s[k] = 58
          · have g3 : ((s[k].toNat : Int) == 58) = true := by rw [h58]; rfl
            have HNX := Lib.hid (hnext.trans (show stepP ⟨out, ⟨m, b⟩, sc⟩ s[k] = some ⟨out, ⟨m, b⟩, true⟩ by rw [h58]; rfl))
            clear hnext h32 h58
            go_wp2
            go_roundw
            case rel => exact ⟨k + 1, ⟨out, ⟨m, b⟩, true⟩, by omega, by go_num, rfl, HNX.out, HO.out, HX.out, ⟨⟨hm0, hm1⟩, hb0, hb1⟩, by show out.length ≤ k + 1; omega, HB.out⟩
            case measure => first | (simp [intOf]; done) | (simp [intOf]; omega)
          · have hn58 : s[k].toNat ≠ 58 := fun e => h58 (UInt8.toNat_inj.1 e)
            have g3 : ((s[k].toNat : Int) == 58) = false := by simp; omega
            by_cases hdig : s[k].toNat < 48 ∨ 57 < s[k].toNat
            · have HNO := Lib.hid (run_fail (hnext.trans (show stepP ⟨out, ⟨m, b⟩, sc⟩ s[k] = none by unfold stepP; rw [if_neg h32, if_neg h58, if_pos hdig])))
              clear hnext h32 h58
              by_cases h48 : s[k].toNat < 48
              · have g4 : ((s[k].toNat : Int) < 48) := by omega
                go_wp2
                go_ret2
                exact ⟨.inr ⟨rfl, HNO.out⟩, HB.out⟩
              · have g4 : ¬ ((s[k].toNat : Int) < 48) := by omega
                have g5 : (57 : Int) < (s[k].toNat : Int) := by omega
                go_wp2
                go_ret2
                exact ⟨.inr ⟨rfl, HNO.out⟩, HB.out⟩
            · have g4 : ¬ ((s[k].toNat : Int) < 48) := by omega
              have g5 : ¬ ((57 : Int) < (s[k].toNat : Int)) := by omega
              have hd1 : (48 : Int) ≤ (s[k].toNat : Int) := by omega
              have hd2 : (s[k].toNat : Int) ≤ 57 := by omega
              obtain ⟨d, hd⟩ : ∃ d : Int, ((s[k].toNat : Int) - 48) = d := ⟨_, rfl⟩
              cases sc
              · have hnx : stepP ⟨out, ⟨m, b⟩, false⟩ s[k] = some ⟨out, ⟨min (10 * m + d) 100000, b⟩, false⟩ := by
                  unfold stepP
                  rw [if_neg h32, if_neg h58, if_neg (by omega), hd]; rfl
                have HNX := Lib.hid (hnext.trans hnx)
                have w1 : wrap64 (10 * m) = 10 * m := wrap64_id (by omega) (by omega)
                have w2 : wrap64 (10 * m + d) = 10 * m + d := wrap64_id (by omega) (by omega)
                have hz0 : 0 ≤ min (10 * m + d) 100000 ∧ min (10 * m + d) 100000 ≤ 100000 := by omega
                clear hnx hnext
                go_wp2
                go_roundw
                case rel => exact ⟨k + 1, ⟨out, ⟨min (10 * m + d) 100000, b⟩, false⟩, by omega, by go_num, rfl, HNX.out, HO.out.kept9 (fun q hq => heap_setCell_other _ ⟨w.heap.size, 0, none⟩ q _ (by show q ≠ w.heap.size; omega)), heap_setCell_same _ w.heap.size 0 _ _ _ HX.out, ⟨hz0, hb0, hb1⟩, by show out.length ≤ k + 1; omega, HB.out.setCell (p := ⟨w.heap.size, 0, none⟩) (Nat.le_refl _) _⟩
                case measure => first | (simp [intOf]; done) | (simp [intOf]; omega)
              · have hnx : stepP ⟨out, ⟨m, b⟩, true⟩ s[k] = some ⟨out, ⟨m, min (10 * b + d) 100000⟩, true⟩ := by
                  unfold stepP
                  rw [if_neg h32, if_neg h58, if_neg (by omega), hd]; rfl
                have HNX := Lib.hid (hnext.trans hnx)
                have w1 : wrap64 (10 * b) = 10 * b := wrap64_id (by omega) (by omega)
                have w2 : wrap64 (10 * b + d) = 10 * b + d := wrap64_id (by omega) (by omega)
                have hz0 : 0 ≤ min (10 * b + d) 100000 ∧ min (10 * b + d) 100000 ≤ 100000 := by omega
                clear hnx hnext
                go_wp2
                go_roundw
                case rel => exact ⟨k + 1, ⟨out, ⟨m, min (10 * b + d) 100000⟩, true⟩, by omega, by go_num, rfl, HNX.out, HO.out.kept9 (fun q hq => heap_setCell_other _ ⟨w.heap.size, 1, none⟩ q _ (by show q ≠ w.heap.size; omega)), heap_setCell_same _ w.heap.size 1 _ _ _ HX.out, ⟨⟨hm0, hm1⟩, hz0⟩, by show out.length ≤ k + 1; omega, HB.out.setCell (p := ⟨w.heap.size, 1, none⟩) (Nat.le_refl _) _⟩
                case measure => first | (simp [intOf]; done) | (simp [intOf]; omega)
    · have hke : k = s.size + 1 := by omega
      have hlti : ¬ ((k : Int) ≤ s.size) := by omega
      have hfull : runP init0 (s.data.toList ++ [32]) = some ⟨out, ⟨m, b⟩, sc⟩ := by rw [hke, List.take_of_length_le (by simp)] at hrun; exact hrun
      have hsz : out.length ≤ maxLen := by unfold maxLen; omega
      have hsw := HO.out.sws
      clear hrun c0 c1 q0 q1
      by_cases hp : PlanL out
      · have ht := rText_yes va out.length vc _ hp wr hsw hsz
        rw [swsOf_self] at ht
        by_cases he : textL out = s.data.toList
        · rw [show strL (textL out) = .string s by rw [he]] at ht
          have HTX := Lib.hid ht
          have HPL := Lib.hid (show PlanL out ∧ s.data.toList = textL out from ⟨hp, he.symm⟩)
          clear ht hp he hsw hfull hsz
          go_wp2_with fail
          refine HTX.out.mono ?_
          rintro e w2 ⟨rfl, hB2⟩
          have HB2 := Lib.hid (HB.out.trans (hB2.mono HB.out.size))
          have HO2 := Lib.hid (HO.out.below hB2 (Nat.le_refl _))
          clear hB2
          go_wp2
          go_ret2
          exact ⟨.inl ⟨_, out, rfl, HO2.out, HPL.out.1, HPL.out.2⟩, HB2.out⟩
        · have hne : (textL out == s.toList) = false := by rw [beq_eq_false_iff_ne, ByteArray.toList_eq]; exact he
          have HNO := Lib.hid (show ∀ xs, PlanL xs → s.data.toList ≠ textL xs from fun xs hx e => he (by rw [show out = xs from run_all hfull hx e, e]))
          obtain ⟨T, hT⟩ : ∃ T, textL out = T := ⟨_, rfl⟩
          rw [hT] at ht hne
          have HTX := Lib.hid ht
          clear ht hp he hsw hfull hsz hT
          go_wp2_with fail
          refine HTX.out.mono ?_
          rintro e w2 ⟨rfl, hB2⟩
          have HB2 := Lib.hid (HB.out.trans (hB2.mono HB.out.size))
          clear hB2
          go_wp2
          go_ret2
          exact ⟨.inr ⟨rfl, HNO.out⟩, HB2.out⟩
      · have ht := rText_no va out.length vc _ hp wr hsw hsz
        have HTX := Lib.hid ht
        have HNO := Lib.hid (show ∀ xs, PlanL xs → s.data.toList ≠ textL xs from fun xs hx e => hp (by rw [show out = xs from run_all hfull hx e]; exact hx))
        clear ht hp hsw hfull hsz
        go_wp2_with fail
        refine HTX.out.mono ?_
        rintro e w2 ⟨rfl, hB2⟩
        have HB2 := Lib.hid (HB.out.trans (hB2.mono HB.out.size))
        clear hB2
        go_wp2
        go_ret2
        exact ⟨.inr ⟨rfl, HNO.out⟩, HB2.out⟩
end Go.Proofs.YtmbimnphdhmapaaDoor
