/- The statement RatesTexts, walked. -/
import Derived.Test.YthlpigffjbhmoaaDoorRPar
import Derived.Test.YthlpigffjbhmoaaDoorESame
import Derived.Test.YthlpigffjbhmoaaDoorVRefS
import Derived.Test.YthlpigffjbhmoaaDoorEText
set_option linter.unusedVariables false
set_option linter.unusedSimpArgs false
namespace Go.Proofs.YthlpigffjbhmoaaDoor
open Go.RowKit Go.Shelf
set_option maxRecDepth 100000 in
set_option maxHeartbeats 4000000 in
theorem texts_1 (a : Option Addr) (n cap : Nat) (l : List Ve) (hn : l.length = n) (a2 : Option Addr) (n2 cap2 : Nat) (r : List Ve) (hn2 : r.length = n2) (s : ByteArray) (w : World) (hA : VesAt w.heap.size w a l) (hA2 : VesAt w.heap.size w a2 r) (hnx : n ≤ cap ∧ cap ≤ maxLen) (hnx2 : n2 ≤ cap2 ∧ cap2 ≤ maxLen) (hT : TabsD w) (ht : TabMay l) :
    Calls Tryd.prog 3 #[.slice a n cap, .slice a2 n2 cap2, .string s] w fun e w' => e = .returned (.bool true) ∧ Below w.heap.size w w' := by
  have HG1 := Lib.hid (fun (W : World) (hB : Below w.heap.size w W) => rGreat_any a n cap l hn W (hA.grow hB) hnx)
  have HG2 := Lib.hid (fun (W : World) (hB : Below w.heap.size w W) => rGreat_any a2 n2 cap2 r hn2 W (hA2.grow hB) hnx2)
  have HT1 := Lib.hid (fun (W : World) (hB : Below w.heap.size w W) => text_yes a n cap l hn ht W (hA.grow hB) hnx (hT.pow.next hB (Nat.le_refl _)))
  have HT2 := Lib.hid (fun (W : World) (hB : Below w.heap.size w W) => rText_any a n cap l hn W (hA.grow hB) hnx)
  rw [if_pos ht] at HT2
  obtain ⟨tx, htx⟩ : ∃ tx, textL l = tx := ⟨_, rfl⟩
  rw [htx] at HT1 HT2
  have HP1 := Lib.hid (fun (hs : s.size ≤ 3000) (W : World) (hB : Below w.heap.size w W) => (show Calls Tryd.prog 11 #[.string s] W fun e w' => ParsE s.data.toList e w' ∧ Below W.heap.size W w' from parse_any s.data.toList (by simp; omega) W (hT.next hB (Nat.le_refl _))))
  have HP2 := Lib.hid (fun (hs : s.size ≤ 3000) (W : World) => rParse_any s hs W)
  obtain ⟨z, hz⟩ : ∃ z, decide (l = r) = z := ⟨_, rfl⟩
  have HS1 := Lib.hid (fun (W : World) (hB : Below w.heap.size w W) => same_any a n cap l hn a2 n2 cap2 r hn2 W (hA.grow hB) (hA2.grow hB) hnx hnx2)
  have HS2 := Lib.hid (fun (W : World) (hB : Below w.heap.size w W) => rSame_any a n cap l hn a2 n2 cap2 r hn2 W (hA.grow hB) (hA2.grow hB) hnx hnx2)
  rw [hz] at HS1 HS2
  clear hA hA2 hn hn2 hT ht hz htx
  go_enter Tryd.func3, Tryd.ntmps3
  go_wp2_with fail
  refine (HG1.out _ (Below.refl _ _)).mono ?_
  rintro e w1 ⟨hg | hg, hB⟩
  all_goals
    subst hg
    have HB1 := Lib.hid hB
    clear hB HG1
  rotate_left
  · go_wp2
    go_ret
    exact ⟨rfl, HB1.out⟩
  go_wp2_with fail
  refine (HG2.out _ HB1.out).mono ?_
  rintro e w2 ⟨hg | hg, hB⟩
  all_goals
    subst hg
    have HB2 := Lib.hid (HB1.out.trans (hB.mono HB1.out.size))
    clear hB HG2 HB1
  rotate_left
  · go_wp2
    go_ret
    exact ⟨rfl, HB2.out⟩
  by_cases h3 : 3000 < s.size
  · have h3i : (3000 : Int) < s.size := by omega
    go_wp2
    go_ret
    exact ⟨rfl, HB2.out⟩
  have h3i : ¬ (3000 : Int) < s.size := by omega
  have H3 := Lib.hid (show s.size ≤ 3000 by omega)
  clear h3
  go_wp2_with fail
  refine (HT1.out _ HB2.out).mono ?_
  rintro e w3 ⟨rfl, hB⟩
  have HB3 := Lib.hid (HB2.out.trans (hB.mono HB2.out.size))
  clear hB HT1 HB2
  go_wp2_with fail
  refine (HT2.out _ HB3.out).mono ?_
  rintro e w4 ⟨rfl, hB⟩
  have HB4 := Lib.hid (HB3.out.trans (hB.mono HB3.out.size))
  clear hB HT2 HB3
  go_wp2_with fail
  refine (HP1.out H3.out _ HB4.out).mono ?_
  rintro e w5 ⟨⟨p, ya, yc, m, er, rfl, hy, hyc, hp⟩, hB⟩
  have HB5 := Lib.hid (HB4.out.trans (hB.mono HB4.out.size))
  have HY5 := Lib.hid hy
  have HPI := Lib.hid hp
  clear hB HP1 HB4 hy hp
  obtain ⟨q, hq⟩ : ∃ q, p.length = q := ⟨_, rfl⟩
  rw [hq] at hyc ⊢
  have HQ := Lib.hid hq
  clear hq
  go_wp2_with fail
  refine (HP2.out H3.out _).mono ?_
  rintro e w6 ⟨⟨p2, xa, xc, m2, er2, rfl, hx, hxc, hp2⟩, hB⟩
  obtain ⟨rfl, rfl, rfl⟩ := hp2.unique HPI.out
  have HB6 := Lib.hid (HB5.out.trans (hB.mono HB5.out.size))
  have HY6 := Lib.hid (HY5.out.grow hB)
  have HX6 := Lib.hid hx
  rw [HQ.out] at hxc ⊢
  clear hB HP2 HB5 HY5 hx hp2 HPI
  have hsm := rSame_any ya q yc p2 HQ.out xa q xc p2 HQ.out w6 HY6.out HX6.out hyc hxc
  rw [decide_eq_true rfl] at hsm
  have HSM := Lib.hid hsm
  clear hsm
  have hmm : (m2 == m2) = true := by simp
  have hee : (er2 == er2) = true := by simp
  have htt : decide ((⟨tx.toArray⟩ : ByteArray) = ⟨tx.toArray⟩) = true := decide_eq_true rfl
  go_wp2_with fail
  refine HSM.out.mono ?_
  rintro e w7 ⟨rfl, hB⟩
  have HB7 := Lib.hid (HB6.out.trans (hB.mono HB6.out.size))
  clear hB HSM HB6 HY6 HX6
  go_wp2_with fail
  refine (HS1.out _ HB7.out).mono ?_
  rintro e w8 ⟨rfl, hB⟩
  have HB8 := Lib.hid (HB7.out.trans (hB.mono HB7.out.size))
  clear hB HS1 HB7
  go_wp2_with fail
  refine (HS2.out _ HB8.out).mono ?_
  rintro e w9 ⟨rfl, hB⟩
  have HB9 := Lib.hid (HB8.out.trans (hB.mono HB8.out.size))
  clear hB HS2 HB8
  have hzz : (z == z) = true := by simp
  go_wp2
  go_ret
  exact ⟨rfl, HB9.out⟩
set_option maxRecDepth 100000 in
set_option maxHeartbeats 4000000 in
theorem texts_0 (a : Option Addr) (n cap : Nat) (l : List Ve) (hn : l.length = n) (a2 : Option Addr) (n2 cap2 : Nat) (r : List Ve) (hn2 : r.length = n2) (s : ByteArray) (w : World) (hA : VesAt w.heap.size w a l) (hA2 : VesAt w.heap.size w a2 r) (hnx : n ≤ cap ∧ cap ≤ maxLen) (hnx2 : n2 ≤ cap2 ∧ cap2 ≤ maxLen) (hT : TabsD w) (ht : ¬ TabMay l) :
    Calls Tryd.prog 3 #[.slice a n cap, .slice a2 n2 cap2, .string s] w fun e w' => e = .returned (.bool true) ∧ Below w.heap.size w w' := by
  have HG1 := Lib.hid (fun (W : World) (hB : Below w.heap.size w W) => rGreat_any a n cap l hn W (hA.grow hB) hnx)
  have HG2 := Lib.hid (fun (W : World) (hB : Below w.heap.size w W) => rGreat_any a2 n2 cap2 r hn2 W (hA2.grow hB) hnx2)
  have HT1 := Lib.hid (fun (W : World) (hB : Below w.heap.size w W) => text_no a n cap l hn ht W (hA.grow hB) hnx)
  have HT2 := Lib.hid (fun (W : World) (hB : Below w.heap.size w W) => rText_any a n cap l hn W (hA.grow hB) hnx)
  rw [if_neg ht] at HT2
  have HP1 := Lib.hid (fun (hs : s.size ≤ 3000) (W : World) (hB : Below w.heap.size w W) => (show Calls Tryd.prog 11 #[.string s] W fun e w' => ParsE s.data.toList e w' ∧ Below W.heap.size W w' from parse_any s.data.toList (by simp; omega) W (hT.next hB (Nat.le_refl _))))
  have HP2 := Lib.hid (fun (hs : s.size ≤ 3000) (W : World) => rParse_any s hs W)
  obtain ⟨z, hz⟩ : ∃ z, decide (l = r) = z := ⟨_, rfl⟩
  have HS1 := Lib.hid (fun (W : World) (hB : Below w.heap.size w W) => same_any a n cap l hn a2 n2 cap2 r hn2 W (hA.grow hB) (hA2.grow hB) hnx hnx2)
  have HS2 := Lib.hid (fun (W : World) (hB : Below w.heap.size w W) => rSame_any a n cap l hn a2 n2 cap2 r hn2 W (hA.grow hB) (hA2.grow hB) hnx hnx2)
  rw [hz] at HS1 HS2
  clear hA hA2 hn hn2 hT ht hz
  go_enter Tryd.func3, Tryd.ntmps3
  go_wp2_with fail
  refine (HG1.out _ (Below.refl _ _)).mono ?_
  rintro e w1 ⟨hg | hg, hB⟩
  all_goals
    subst hg
    have HB1 := Lib.hid hB
    clear hB HG1
  rotate_left
  · go_wp2
    go_ret
    exact ⟨rfl, HB1.out⟩
  go_wp2_with fail
  refine (HG2.out _ HB1.out).mono ?_
  rintro e w2 ⟨hg | hg, hB⟩
  all_goals
    subst hg
    have HB2 := Lib.hid (HB1.out.trans (hB.mono HB1.out.size))
    clear hB HG2 HB1
  rotate_left
  · go_wp2
    go_ret
    exact ⟨rfl, HB2.out⟩
  by_cases h3 : 3000 < s.size
  · have h3i : (3000 : Int) < s.size := by omega
    go_wp2
    go_ret
    exact ⟨rfl, HB2.out⟩
  have h3i : ¬ (3000 : Int) < s.size := by omega
  have H3 := Lib.hid (show s.size ≤ 3000 by omega)
  clear h3
  go_wp2_with fail
  refine (HT1.out _ HB2.out).mono ?_
  rintro e w3 ⟨rfl, hB⟩
  have HB3 := Lib.hid (HB2.out.trans (hB.mono HB2.out.size))
  clear hB HT1 HB2
  go_wp2_with fail
  refine (HT2.out _ HB3.out).mono ?_
  rintro e w4 ⟨rfl, hB⟩
  have HB4 := Lib.hid (HB3.out.trans (hB.mono HB3.out.size))
  clear hB HT2 HB3
  go_wp2_with fail
  refine (HP1.out H3.out _ HB4.out).mono ?_
  rintro e w5 ⟨⟨p, ya, yc, m, er, rfl, hy, hyc, hp⟩, hB⟩
  have HB5 := Lib.hid (HB4.out.trans (hB.mono HB4.out.size))
  have HY5 := Lib.hid hy
  have HPI := Lib.hid hp
  clear hB HP1 HB4 hy hp
  obtain ⟨q, hq⟩ : ∃ q, p.length = q := ⟨_, rfl⟩
  rw [hq] at hyc ⊢
  have HQ := Lib.hid hq
  clear hq
  go_wp2_with fail
  refine (HP2.out H3.out _).mono ?_
  rintro e w6 ⟨⟨p2, xa, xc, m2, er2, rfl, hx, hxc, hp2⟩, hB⟩
  obtain ⟨rfl, rfl, rfl⟩ := hp2.unique HPI.out
  have HB6 := Lib.hid (HB5.out.trans (hB.mono HB5.out.size))
  have HY6 := Lib.hid (HY5.out.grow hB)
  have HX6 := Lib.hid hx
  rw [HQ.out] at hxc ⊢
  clear hB HP2 HB5 HY5 hx hp2 HPI
  have hsm := rSame_any ya q yc p2 HQ.out xa q xc p2 HQ.out w6 HY6.out HX6.out hyc hxc
  rw [decide_eq_true rfl] at hsm
  have HSM := Lib.hid hsm
  clear hsm
  have hmm : (m2 == m2) = true := by simp
  have hee : (er2 == er2) = true := by simp
  go_wp2_with fail
  refine HSM.out.mono ?_
  rintro e w7 ⟨rfl, hB⟩
  have HB7 := Lib.hid (HB6.out.trans (hB.mono HB6.out.size))
  clear hB HSM HB6 HY6 HX6
  go_wp2_with fail
  refine (HS1.out _ HB7.out).mono ?_
  rintro e w8 ⟨rfl, hB⟩
  have HB8 := Lib.hid (HB7.out.trans (hB.mono HB7.out.size))
  clear hB HS1 HB7
  go_wp2_with fail
  refine (HS2.out _ HB8.out).mono ?_
  rintro e w9 ⟨rfl, hB⟩
  have HB9 := Lib.hid (HB8.out.trans (hB.mono HB8.out.size))
  clear hB HS2 HB8
  have hzz : (z == z) = true := by simp
  go_wp2
  go_ret
  exact ⟨rfl, HB9.out⟩
theorem textsW (a : Option Addr) (cap : Nat) (l : List Ve) (a2 : Option Addr) (cap2 : Nat) (r : List Ve) (s : ByteArray) (w : World) (hT : TabsD w) (hw : (l.length ≤ cap ∧ cap ≤ maxLen) ∧ VesAt w.heap.size w a l) (hw2 : (r.length ≤ cap2 ∧ cap2 ≤ maxLen) ∧ VesAt w.heap.size w a2 r) (_hs : s.size ≤ maxLen) :
    Calls Tryd.prog 3 #[.slice a l.length cap, .slice a2 r.length cap2, .string s] w fun e w' => e = .returned (.bool true) ∧ Below w.heap.size w w' := by
  by_cases ht : TabMay l
  · exact texts_1 a _ cap l rfl a2 _ cap2 r rfl s w hw.2 hw2.2 hw.1 hw2.1 hT ht
  · exact texts_0 a _ cap l rfl a2 _ cap2 r rfl s w hw.2 hw2.2 hw.1 hw2.1 hT ht
end Go.Proofs.YthlpigffjbhmoaaDoor
