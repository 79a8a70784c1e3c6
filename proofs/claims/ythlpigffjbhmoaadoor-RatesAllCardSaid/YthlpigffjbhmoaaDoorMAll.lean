/- The statement RatesAll, walked. -/
import Derived.Test.YthlpigffjbhmoaaDoorEFew
import Derived.Test.YthlpigffjbhmoaaDoorEMath
import Derived.Test.YthlpigffjbhmoaaDoorESame
import Derived.Test.YthlpigffjbhmoaaDoorVHoldM
import Derived.Test.YthlpigffjbhmoaaDoorVRef1
set_option linter.unusedVariables false
set_option linter.unusedSimpArgs false
namespace Go.Proofs.YthlpigffjbhmoaaDoor
open Go.RowKit Go.Shelf
theorem map_get {l : List Ve} {i : Nat} {v : Ve} (h : l[i]? = some v) : (l.map (·.f))[i]? = some v.f := by rw [List.getElem?_map, h]; rfl
set_option maxRecDepth 100000 in
set_option maxHeartbeats 2000000 in
theorem all_bad (a : Option Addr) (n cap : Nat) (l : List Ve) (hn : l.length = n) (w : World) (hA : VesAt w.heap.size w a l) (hnx : n ≤ cap ∧ cap ≤ maxLen) (hPow : Pow w) (hno : ¬ TabMay l) :
    Calls Tryd.prog 7 #[.slice a n cap] w fun e w' => e = .returned (.bool true) ∧ Below w.heap.size w w' := by
  have HAL := Lib.hid (alive_any w hPow)
  have HGR := Lib.hid (fun (W : World) (hB : Below w.heap.size w W) => rGreat_any a n cap l hn W (hA.grow hB) hnx)
  have HCK := Lib.hid (fun (W : World) (hB : Below w.heap.size w W) => check_any a n cap l hn W (hA.grow hB) hnx)
  rw [tErr_no hno] at HCK
  clear hA hn hPow hno
  go_enter Tryd.func7, Tryd.ntmps7
  go_wp2_with fail
  refine HAL.out.mono ?_
  rintro e w1 ⟨rfl, hB1⟩
  have HB1 := Lib.hid hB1
  clear hB1
  go_wp2_with fail
  refine (HGR.out _ HB1.out).mono ?_
  rintro e w2 ⟨hg | hg, hB⟩
  all_goals
    subst hg
    have HB2 := Lib.hid (HB1.out.trans (hB.mono HB1.out.size))
    clear hB HB1 HGR
  rotate_left
  · go_wp2
    go_ret
    exact ⟨rfl, HB2.out⟩
  go_wp2_with fail
  refine (HCK.out _ HB2.out).mono ?_
  rintro e w3 ⟨rfl, hB⟩
  have HB3 := Lib.hid (HB2.out.trans (hB.mono HB2.out.size))
  clear hB HB2
  go_wp2
  go_ret
  exact ⟨rfl, HB3.out⟩
set_option maxRecDepth 100000 in
set_option maxHeartbeats 8000000 in
theorem all_yes (a : Option Addr) (n cap : Nat) (l : List Ve) (hn : l.length = n) (w : World) (hA : VesAt w.heap.size w a l) (hnx : n ≤ cap ∧ cap ≤ maxLen) (hPow : Pow w) (ht : TabMay l) :
    Calls Tryd.prog 7 #[.slice a n cap] w fun e w' => e = .returned (.bool true) ∧ Below w.heap.size w w' := by
  have HAL := Lib.hid (alive_any w hPow)
  have HGR := Lib.hid (fun (W : World) (hB : Below w.heap.size w W) => rGreat_any a n cap l hn W (hA.grow hB) hnx)
  have HCK := Lib.hid (fun (W : World) (hB : Below w.heap.size w W) => check_any a n cap l hn W (hA.grow hB) hnx)
  rw [tErr_yes ht] at HCK
  have HSP := Lib.hid (fun (W : World) (hB : Below w.heap.size w W) => spans_any a n cap l hn (-1) 253402300800 W (hA.grow hB) hnx)
  unfold SpansE at HSP
  rw [spans_whole ht, List.length_map, hn] at HSP
  have HNX := Lib.hid (fun (t : Int) (W : World) (hB : Below w.heap.size w W) => next_any a n cap l hn t W (hA.grow hB) hnx)
  have HAT := Lib.hid (fun (t : Int) (W : World) (hB : Below w.heap.size w W) => at_any a n cap l hn t W (hA.grow hB) hnx)
  have HWI := Lib.hid (fun (f : Int) (pa : Option Addr) (m pc : Nat) (ps : List Int) (hm : ps.length = m) (hmx : m ≤ pc ∧ pc ≤ maxLen) (hw : withL l ⟨f, ps⟩ = l) (W : World) (hB : Below w.heap.size w W) (hP : PrAt W.heap.size W pa ps) => (show Calls Tryd.prog 19 #[.slice a n cap, verV f pa m pc] W fun e w' => (∃ xa xc, e = .returned (.tuple #[.slice xa n xc, .int .i64 0]) ∧ VesAt w'.heap.size w' xa l ∧ n ≤ xc ∧ xc ≤ maxLen) ∧ Below W.heap.size W w' by
    have := withO_any a n cap l hn f pa m pc ps hm W (hA.grow hB) hP hnx hmx
    have hmay : WithMay l ⟨f, ps⟩ := ⟨ht, by rw [hw]; exact ht⟩
    unfold WithO at this
    rwa [show wT l ⟨f, ps⟩ = l by rw [show wT l ⟨f, ps⟩ = withL l ⟨f, ps⟩ from if_pos hmay, hw], show wG l ⟨f, ps⟩ = 0 from if_pos hmay, hn] at this))
  have HSM := Lib.hid (fun (xa : Option Addr) (xc : Nat) (W : World) (hB : Below w.heap.size w W) (hx : VesAt W.heap.size W xa l) (hxc : n ≤ xc ∧ xc ≤ maxLen) => (show Calls Tryd.prog 14 #[.slice xa n xc, .slice a n cap] W fun e w' => e = .returned (.bool true) ∧ Below W.heap.size W w' by
    have := same_any xa n xc l hn a n cap l hn W hx (hA.grow hB) hxc hnx
    rwa [decide_eq_true rfl] at this))
  have hn2 : n ≤ 200 := by rw [← hn]; exact tab_len ht
  have HA := Lib.hid hA
  have HN := Lib.hid hn
  have HTM := Lib.hid ht
  have hnn : ((n : Int) != (n : Int)) = false := by simp
  clear hA hn hPow ht
  go_enter Tryd.func7, Tryd.ntmps7
  go_wp2_with fail
  refine HAL.out.mono ?_
  rintro e w1 ⟨rfl, hB1⟩
  have HB1 := Lib.hid hB1
  clear hB1
  go_wp2_with fail
  refine (HGR.out _ HB1.out).mono ?_
  rintro e w2 ⟨hg | hg, hB⟩
  all_goals
    subst hg
    have HB2 := Lib.hid (HB1.out.trans (hB.mono HB1.out.size))
    clear hB HB1 HGR
  rotate_left
  · go_wp2
    go_ret
    exact ⟨rfl, HB2.out⟩
  go_wp2_with fail
  refine (HCK.out _ HB2.out).mono ?_
  rintro e w3 ⟨rfl, hB⟩
  have HB3 := Lib.hid (HB2.out.trans (hB.mono HB2.out.size))
  clear hB HB2 HCK HAL
  go_wp2_with fail
  refine (HSP.out _ HB3.out).mono ?_
  rintro e w4 ⟨⟨sa, sc, rfl, hs⟩, hB⟩
  have HB4 := Lib.hid (HB3.out.trans (hB.mono HB3.out.size))
  have HS4 := Lib.hid hs
  clear hB HB3 HSP hs
  go_wp2_with fail
  go_loopw [4, 6] (fun tt ii wr => ∃ i : Nat, i ≤ n ∧ ii = .int .i64 i ∧ tt = .int .i64 (stand l i) ∧ Below w.heap.size w wr ∧ OwnP w3.heap.size wr (.slice sa n sc) (l.map (·.f))) (fun _ ii _ => (n - intOf ii).toNat)
  case atStart => exact ⟨0, Nat.zero_le _, rfl, rfl, HB4.out, HS4.out⟩
  case round =>
    obtain ⟨i, hi, rfl, rfl, hb, hs⟩ := hrel
    have HB := Lib.hid hb
    have HS := Lib.hid hs
    clear hb hs HB4 HS4
    obtain ⟨tv, htv⟩ : ∃ tv, stand l i = tv := ⟨_, rfl⟩
    by_cases hlt : i < n
    · have hlti : (i : Int) < n := by omega
      obtain ⟨⟨f, ps⟩, hv⟩ : ∃ v, l[i]? = some v := ⟨_, List.getElem?_eq_getElem (by rw [HN.out]; exact hlt)⟩
      have hnext := next_stand HTM.out hv
      have hwith := with_own HTM.out hv
      have hatown := at_own HTM.out hv
      have HST := Lib.hid (stand_succ hv)
      have hnx1 := fun W hB => HNX.out tv W hB
      rw [← htv, hnext, optV_some, htv] at hnx1
      have HNX1 := Lib.hid hnx1
      have hat1 := fun W hB => HAT.out f W hB
      rw [hatown, optV_some] at hat1
      have HAT1 := Lib.hid hat1
      obtain ⟨m, hm⟩ : ∃ m, ps.length = m := ⟨_, rfl⟩
      have HV := Lib.hid hv
      have HM := Lib.hid hm
      have HWO := Lib.hid hwith
      have hff : (f != f) = false := by simp
      have hii : ((i : Int) != (i : Int)) = false := by simp
      rw [htv]
      clear hnext hwith hatown hnx1 hat1 hv hm htv
      go_wp2_with fail
      refine (HNX1.out _ HB.out).mono ?_
      rintro e w5 ⟨rfl, hB⟩
      have HB5 := Lib.hid (HB.out.trans (hB.mono HB.out.size))
      have HS5 := Lib.hid (HS.out.below hB (Nat.le_refl _))
      clear hB HB HS HNX1
      obtain ⟨b, o, pa, pc, e, hbl, c0, c1, hle, hup⟩ := HA.out.next HB5.out (Nat.le_refl _) i _ HV.out
      cases e
      simp only at c0 c1 hle hup
      rw [HM.out] at c1 hle
      have HW1 := Lib.hid (HWI.out f pa m pc ps HM.out hle HWO.out w5 HB5.out (hup.mono HB5.out.size))
      clear hup hle
      go_wp2_with fail
      refine HW1.out.mono ?_
      rintro e w6 ⟨⟨xa, xc, rfl, hx, hxc⟩, hB⟩
      have HB6 := Lib.hid (HB5.out.trans (hB.mono HB5.out.size))
      have HS6 := Lib.hid (HS5.out.below hB (Nat.le_refl _))
      have HX6 := Lib.hid hx
      have d0 : w6.cell? ⟨b, o + i * 2, none⟩ = some (.int .i64 f) := (hB.cell (p := ⟨b, o + i * 2, none⟩) (Nat.lt_of_lt_of_le hbl HB5.out.size)).trans c0
      clear hB HB5 HS5 HW1 hx c0 c1
      go_wp2_with fail
      refine (HAT1.out _ HB6.out).mono ?_
      rintro e w7 ⟨rfl, hB⟩
      have HB7 := Lib.hid (HB6.out.trans (hB.mono HB6.out.size))
      have HS7 := Lib.hid (HS6.out.below hB (Nat.le_refl _))
      have HSM1 := Lib.hid (HSM.out xa xc w7 HB7.out (HX6.out.grow hB) hxc)
      have e0 : w7.cell? ⟨b, o + i * 2, none⟩ = some (.int .i64 f) := (hB.cell (p := ⟨b, o + i * 2, none⟩) (Nat.lt_of_lt_of_le hbl HB6.out.size)).trans d0
      clear hB HB6 HS6 HX6 d0 HAT1
      obtain ⟨sb, e8, _, _, s0⟩ := HS7.out.prs i _ (map_get HV.out)
      subst e8
      simp only [Nat.zero_add] at s0
      go_wp2_with fail
      refine HSM1.out.mono ?_
      rintro e w8 ⟨rfl, hB⟩
      have HB8 := Lib.hid (HB7.out.trans (hB.mono HB7.out.size))
      have HS8 := Lib.hid (HS7.out.below hB (Nat.le_refl _))
      clear hB HB7 HS7 HSM1
      go_wp2
      go_roundw
      case rel => exact ⟨i + 1, by omega, by go_num, by rw [HST.out], HB8.out, HS8.out⟩
      case measure => first | (simp [intOf]; done) | (simp [intOf]; omega)
    · have hie : i = n := by omega
      subst hie
      have hnl : ¬ ((i : Int) < i) := by omega
      have hend := next_end HTM.out
      rw [HN.out, htv] at hend
      have hnx1 := fun W hB => HNX.out tv W hB
      rw [hend, optV_none] at hnx1
      have HNX1 := Lib.hid hnx1
      rw [htv]
      clear hend hnx1 htv
      go_wp2_with fail
      refine (HNX1.out _ HB.out).mono ?_
      rintro e w5 ⟨rfl, hB⟩
      have HB5 := Lib.hid (HB.out.trans (hB.mono HB.out.size))
      clear hB HB
      go_wp2
      go_ret
      exact ⟨rfl, HB5.out⟩
theorem allW (a : Option Addr) (cap : Nat) (l : List Ve) (w : World) (hPow : Pow w) (hw : (l.length ≤ cap ∧ cap ≤ maxLen) ∧ VesAt w.heap.size w a l) :
    Calls Tryd.prog 7 #[.slice a l.length cap] w fun e w' => e = .returned (.bool true) ∧ Below w.heap.size w w' := by
  by_cases ht : TabMay l
  · exact all_yes a _ cap l rfl w hw.2 hw.1 hPow ht
  · exact all_bad a _ cap l rfl w hw.2 hw.1 hPow ht
end Go.Proofs.YthlpigffjbhmoaaDoor
