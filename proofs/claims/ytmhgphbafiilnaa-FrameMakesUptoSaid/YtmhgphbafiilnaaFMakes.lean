/- The walk of FrameMakes. -/
import Derived.Test.YtmhgphbafiilnaaFCut
import Derived.Test.YtmhgphbafiilnaaFRef
set_option linter.unusedVariables false
set_option linter.unusedSimpArgs false
namespace Go.Proofs.Ytmhgphbafiilnaa
open Go.RowKit Go.Shelf
theorem slice_oneS (W : World) (b o n c k K1 : Nat) (h : K1 = k + 1) (hc : k < c) : (Instr.slice 22 (.slice (some ⟨b, o, none⟩) n c) (some (.int .i64 (k : Int))) (some (.int .i64 (K1 : Int))) none).run Try.prog W = .ok (.slice (some ⟨b, o + k, none⟩) 1 (c - k)) W := by
  rw [run_slice_lh W 22 (some ⟨b, o, none⟩) n c (by rw [elemS]; exact Try.underlying22) .i64 .i64 k K1 (by omega) (by omega) (by omega), elemS, sizeS]
  simp [Result.andThen, sliced, Addr.add]
  refine ⟨?_, by omega⟩
  rw [if_neg (by omega)]
  by_cases e : k = 0
  · simp [e]
  · simp [e]
theorem str_app (xs ys : List Int) : strOfNums xs ++ strOfNums ys = strOfNums (xs ++ ys) := by
  apply ByteArray.ext
  apply Array.toList_inj.1
  simp [ByteArray.data_append, strOfNums_data]
theorem str_size (xs : List Int) : (strOfNums xs).size = xs.length := by
  show (strOfNums xs).data.size = _
  rw [← Array.length_toList, strOfNums_data, List.length_map]
/-- What both Alls answer. -/
theorem all_u (f : FuncId) (a0 : Option Addr) (n0 c0 : Nat) (ls : List (List Int)) (W : World) (h : Calls Try.prog f #[.slice a0 n0 c0] W (AllE ls W)) : ∃ (zs : List Int) (N : Nat) (x : Int), (zs = if ∀ L ∈ ls, RecL L then (ls.map frameL).flatten else []) ∧ N = zs.length ∧ (x = if ∀ L ∈ ls, RecL L then 0 else 130) ∧
    Calls Try.prog f #[.slice a0 n0 c0] W (fun e w' => ∃ a c, e = .returned (.tuple #[.slice a N c, .int .i64 x]) ∧ Bys8 w'.heap.size w' (.slice a N c) zs ∧ Below W.heap.size W w') := by
  refine ⟨_, _, _, rfl, rfl, rfl, h.mono ?_⟩
  rintro e w' (⟨q, a, c, he, hO, hB⟩ | ⟨q, he, hB⟩)
  · rw [if_pos q, if_pos q]; exact ⟨a, c, he, hO.bys, hB⟩
  · rw [if_neg q, if_neg q]; exact ⟨none, 0, he, bys8_nil _ _ _ _, hB⟩

set_option maxRecDepth 100000 in
set_option maxHeartbeats 4000000 in
theorem makes_g1 (a0 : Option Addr) (n0 c0 : Nat) (ls : List (List Int)) (a1 : Option Addr) (n1 c1 : Nat) (ys : List Int) (w : World) (h0 : BssAt w.heap.size w a0 ls) (e0 : ls.length = n0) (hc0 : n0 ≤ c0) (hs0 : sizeN ls ≤ 10000000) (h1 : Bys8 w.heap.size w (.slice a1 n1 c1) ys) (e1 : ys.length = n1) (hq : 9000 < sizeN ls) :
    Calls Try.prog 3 #[.slice a0 n0 c0, .slice a1 n1 c1] w fun e w' => e = .returned (.bool true) ∧ Below w.heap.size w w' := by
  have hn0 : n0 ≤ 10000000 := by have := sizeN_len ls; omega
  have hg := great_any a0 n0 c0 ls w h0 e0.symm hn0 hs0
  rw [show ((greatE (sizeN ls) : Nat) : Int) = 1 by unfold greatE; rw [if_pos hq]; rfl] at hg
  have HG := Lib.hid hg
  clear h0 e0 hc0 hs0 h1 e1 hq hn0 hg
  go_enter Try.func3, Try.ntmps3
  go_wp2_with (first
    | (go_at_call 8; refine HG.out.mono ?_; rintro e wg ⟨rfl, rfl⟩)
    | fail)
  go_ret
  exact ⟨rfl, Below.refl _ _⟩

set_option maxRecDepth 100000 in
set_option maxHeartbeats 4000000 in
theorem makes_g2 (a0 : Option Addr) (n0 c0 : Nat) (ls : List (List Int)) (a1 : Option Addr) (n1 c1 : Nat) (ys : List Int) (w : World) (h0 : BssAt w.heap.size w a0 ls) (e0 : ls.length = n0) (hc0 : n0 ≤ c0) (hs0 : sizeN ls ≤ 10000000) (h1 : Bys8 w.heap.size w (.slice a1 n1 c1) ys) (e1 : ys.length = n1) (hq : ¬ 9000 < sizeN ls) (hq2 : 500 < n1) :
    Calls Try.prog 3 #[.slice a0 n0 c0, .slice a1 n1 c1] w fun e w' => e = .returned (.bool true) ∧ Below w.heap.size w w' := by
  have hn0 : n0 ≤ 10000000 := by have := sizeN_len ls; omega
  have hg := great_any a0 n0 c0 ls w h0 e0.symm hn0 hs0
  rw [show ((greatE (sizeN ls) : Nat) : Int) = 0 by unfold greatE; rw [if_neg hq]; rfl] at hg
  have HG := Lib.hid hg
  have i1 : (500 : Int) < (n1 : Int) := by omega
  clear h0 e0 hc0 hs0 h1 e1 hq hq2 hn0 hg
  go_enter Try.func3, Try.ntmps3
  go_wp2_with (first
    | (go_at_call 8; refine HG.out.mono ?_; rintro e wg ⟨rfl, rfl⟩)
    | fail)
  go_ret
  exact ⟨rfl, Below.refl _ _⟩

set_option maxRecDepth 100000 in
set_option maxHeartbeats 4000000 in
theorem makes_main (a0 : Option Addr) (n0 c0 : Nat) (ls : List (List Int)) (a1 : Option Addr) (n1 c1 : Nat) (ys : List Int) (w : World) (h0 : BssAt w.heap.size w a0 ls) (e0 : ls.length = n0) (hc0 : n0 ≤ c0) (hs0 : sizeN ls ≤ 10000000) (h1 : Bys8 w.heap.size w (.slice a1 n1 c1) ys) (e1 : ys.length = n1) (hq : ¬ 9000 < sizeN ls) (hq2 : ¬ 500 < n1) :
    Calls Try.prog 3 #[.slice a0 n0 c0, .slice a1 n1 c1] w fun e w' => e = .returned (.bool true) ∧ Below w.heap.size w w' := by
  have hn0 : n0 ≤ 10000000 := by have := sizeN_len ls; omega
  have hg := great_any a0 n0 c0 ls w h0 e0.symm hn0 hs0
  rw [show ((greatE (sizeN ls) : Nat) : Int) = 0 by unfold greatE; rw [if_neg hq]; rfl] at hg
  have HG := Lib.hid hg
  have i1 : ¬ (500 : Int) < (n1 : Int) := by omega
  have hall := all_any a0 c0 ls w h0 hs0 (by omega)
  rw [e0] at hall
  obtain ⟨zs, N, x, hzs, hN, hx, hall'⟩ := all_u _ a0 n0 c0 ls w hall
  have HALL := Lib.hid hall'
  have HRA := Lib.hid (fun (W : World) (hB : Below w.heap.size w W) => show Calls Try.prog 10 #[.slice a0 n0 c0] W (fun e w' => ∃ a c, e = .returned (.tuple #[.slice a N c, .int .i64 x]) ∧ Bys8 w'.heap.size w' (.slice a N c) zs ∧ Below W.heap.size W w') from by
    obtain ⟨zs', N', x', hzs', hN', hx', hr⟩ := all_u _ a0 n0 c0 ls W (rall_any a0 n0 c0 ls W (h0.from hB (Nat.le_refl _)) e0.symm hs0 (by omega))
    rw [← hzs] at hzs'
    rw [← hx] at hx'
    subst hzs' hx'
    rw [← hN] at hN'
    subst hN'
    exact hr)
  have ix : (x != x) = false := by simp
  obtain ⟨z, hz⟩ : ∃ z, strOfNums zs = z := ⟨_, rfl⟩
  have CVZ := Lib.hid (fun (W : World) (B : Nat) (a : Option Addr) (c : Nat) (hb : Bys8 B W (.slice a N c) zs) => show (convert 23 9 (.slice a N c)).run Try.prog W = .ok (.string z) W from by rw [← hz]; exact conv8 hb)
  obtain ⟨s, hs⟩ : ∃ s, strOfNums ys = s := ⟨_, rfl⟩
  have CVS := Lib.hid (fun (W : World) (hB : Below w.heap.size w W) => show (convert 23 9 (.slice a1 n1 c1)).run Try.prog W = .ok (.string s) W from by rw [← hs]; exact conv8 (h1.below hB))
  have HX := Lib.hid (And.intro h0 (And.intro e0 (And.intro hc0 (And.intro h1 (And.intro e1 (And.intro hn0 (And.intro hs (show n1 ≤ 500 ∧ sizeN ls ≤ 9000 by omega))))))))
  clear h0 e0 hc0 hs0 h1 e1 hq hq2 hn0 hg hall hall' hzs hN hx hz hs
  go_enter Try.func3, Try.ntmps3
  go_wp2_with (first
    | (go_at_call 8; refine HG.out.mono ?_; rintro e wg ⟨rfl, rfl⟩)
    | (go_at_call 9; refine HALL.out.mono ?_; rintro e w2 ⟨fa, fc, rfl, hfb, hB2⟩)
    | (go_at_call 10; refine (HRA.out w2 hB2).mono ?_; rintro e w3 ⟨ra, rc, rfl, hrb, hB3⟩
       have HB3 := Lib.hid (hB2.trans (hB3.mono hB2.size))
       have cv1 := CVZ.out w3 _ fa fc (hfb.grow hB3)
       have cv2 := CVZ.out w3 _ ra rc hrb
       have cv3 := CVS.out w3 HB3.out
       clear hfb hrb hB2 hB3 HALL HRA)
    | fail)
  go_loopw [10] (fun i wr => ∃ k : Nat, k ≤ n0 ∧ i = .int .i64 (k : Int) ∧ Below w.heap.size w wr) (fun i _ => (n0 - intOf i).toNat)
  case atStart => exact ⟨0, Nat.zero_le _, rfl, HB3.out⟩
  case round =>
    obtain ⟨k, hk, rfl, hB⟩ := hrel
    clear cv1 cv2 cv3
    by_cases hlt : k < n0
    · obtain ⟨h0, e0, hc0, h1, e1, hn0, hs, hn5, hs9⟩ := HX.out
      obtain ⟨b, o, a2, c2, rfl, hb, cell, hl2, hy2⟩ := (h0.from hB (Nat.le_refl _)).at k (by omega)
      have hone := (h0.from hB (Nat.le_refl _)).one k (by omega)
      have hsz1 : (ls.getD k []).length ≤ 9000 := by
        have h1 := size_snoc ls k (by omega)
        have h2 := size_take_le ls (k + 1)
        omega
      obtain ⟨K1, hK1⟩ : ∃ K1, K1 = k + 1 := ⟨_, rfl⟩
      have slo := fun W => slice_oneS W b o n0 c0 k K1 hK1 (by omega)
      have HWK := Lib.hid (show wrap64 ((k : Int) + 1) = (K1 : Int) by rw [hK1]; exact wrap_succ (k := k) (by omega))
      generalize ls.getD k [] = L at *
      obtain ⟨m, hm⟩ : ∃ m, L.length = m := ⟨_, rfl⟩
      rw [hm] at cell hl2 hy2 hsz1
      have hy1 := (h1.below hB).mono hB.size
      have i10 : (k : Int) < (n0 : Int) := by omega
      have i11 : (0 : Int) ≤ (k : Int) := by omega
      have HM := Lib.hid (show k + 1 ≤ n0 ∧ k < n0 by omega)
      have HB := Lib.hid hB
      have WK2 := Lib.hid (wrap_succ (k := k) (by omega))
      by_cases hL : 1 ≤ m ∧ m ≤ 4096
      · have hRec : RecL L := by unfold RecL; omega
        have hput := put_yes a1 n1 c1 ys a2 m c2 L wr hy1 hy2 hRec (by omega)
        obtain ⟨F, hF⟩ : ∃ F, (frameL L).length = F := ⟨_, rfl⟩
        have hF6 : F = 6 + m := by rw [← hF, frameL_len, hm]
        have hrall := fun (W : World) (hB : Below wr.heap.size wr W) => rall_any (some ⟨b, o + k, none⟩) 1 (c0 - k) [L] W (hone.grow hB) rfl (by rw [sizeN_cons, hm]; show 6 + m + 0 ≤ _; omega) (by simp)
        have HPUT := Lib.hid (show Calls Try.prog 11 #[.slice a1 n1 c1, .slice a2 m c2] wr (fun e w' => ∃ a c, e = .returned (.tuple #[.slice a (n1 + F) c, .int .i64 0]) ∧ Bys8 w'.heap.size w' (.slice a (n1 + F) c) (ys ++ frameL L) ∧ Below wr.heap.size wr w') from hput.mono (by
          rintro e w' ⟨a, c, he, hO, hB⟩
          rw [List.length_append, hF, e1] at he
          exact ⟨a, c, he, by have := hO.bys; rwa [List.length_append, hF, e1] at this, hB⟩))
        have HRALL := Lib.hid (fun (W : World) (hB : Below wr.heap.size wr W) => show Calls Try.prog 10 #[.slice (some ⟨b, o + k, none⟩) 1 (c0 - k)] W (fun e w' => ∃ a c, e = .returned (.tuple #[.slice a F c, .int .i64 0]) ∧ Bys8 w'.heap.size w' (.slice a F c) (frameL L) ∧ Below W.heap.size W w') from (hrall W hB).mono (by
          rintro e w' (⟨_, a, c, he, hO, hB⟩ | ⟨q, _⟩)
          · have e2 : ([L].map frameL).flatten = frameL L := by simp
            rw [e2] at he hO
            rw [hF] at he
            exact ⟨a, c, he, by have := hO.bys; rwa [hF] at this, hB⟩
          · exact absurd (fun M hM => by rw [List.mem_singleton.1 hM]; exact hRec) q))
        have HSZ := Lib.hid (fun (W : World) => show Calls Try.prog 12 #[.slice a2 m c2] W (fun e w' => e = .returned (.int .i64 (F : Nat)) ∧ W = w') from by
          have := size_any a2 m c2 W
          rw [show sizeE m = F by unfold sizeE; rw [if_pos hL, hF6]] at this
          exact this)
        obtain ⟨t, ht⟩ : ∃ t, strOfNums (frameL L) = t := ⟨_, rfl⟩
        have hst : s ++ t = strOfNums (ys ++ frameL L) := by rw [← hs, ← ht, str_app]
        obtain ⟨u, hu⟩ : ∃ u, strOfNums (ys ++ frameL L) = u := ⟨_, rfl⟩
        rw [hu] at hst
        have i12 : ¬ (9223372036854775807 < s.size + t.size) := by rw [← hs, ← ht, str_size, str_size, e1, hF]; omega
        have CVU := Lib.hid (fun (W : World) (B : Nat) (a : Option Addr) (c : Nat) (hb : Bys8 B W (.slice a (n1 + F) c) (ys ++ frameL L)) => show (convert 23 9 (.slice a (n1 + F) c)).run Try.prog W = .ok (.string u) W from by rw [← hu]; exact conv8 hb)
        have CVT := Lib.hid (fun (W : World) (B : Nat) (a : Option Addr) (c : Nat) (hb : Bys8 B W (.slice a F c) (frameL L)) => show (convert 23 9 (.slice a F c)).run Try.prog W = .ok (.string t) W from by rw [← ht]; exact conv8 hb)
        have HCELL := Lib.hid cell
        have HBL := Lib.hid hb
        clear h0 e0 hc0 h1 e1 hn0 hs hn5 hl2 hy2 hone hK1 hm hy1 hL hRec hput hF hF6 hrall ht hu hlt hk hB hb hs9 hsz1
        have hWK := HWK.out
        clear HWK
        go_wp2_with (first
          | (go_at_call 11; refine HPUT.out.mono ?_; rintro e w4 ⟨ax, cx, rfl, hxb, hB4⟩
             have HX4 := Lib.hid (And.intro hxb hB4)
             clear hxb hB4)
          | (go_at_call 10; refine (HRALL.out w4 HX4.out.2).mono ?_; rintro e w5 ⟨ay, cy, rfl, hyb, hB5⟩
             have HB5 := Lib.hid (HX4.out.2.trans (hB5.mono HX4.out.2.size))
             have HB05 := Lib.hid (HB.out.trans (HB5.out.mono HB.out.size))
             have cvx := CVU.out w5 _ ax cx (HX4.out.1.grow hB5)
             have cvy := CVT.out w5 _ ay cy hyb
             have cva := CVS.out w5 HB05.out
             have cell5 := (HB5.out.cell (p := ⟨b, o + k, none⟩) HBL.out).trans HCELL.out
             clear hyb hB5)
          | (go_at_call 12; refine (HSZ.out w5).mono ?_; rintro e w6 ⟨rfl, rfl⟩)
          | fail)
        go_roundw
        case rel => exact ⟨k + 1, HM.out.1, by first | rfl | rw [WK2.out], HB05.out⟩
        case measure => exact meas_succ HM.out.2 WK2.out
      · have hRec : ¬ RecL L := by unfold RecL; omega
        have HPUT := Lib.hid (put_no a1 n1 c1 a2 m c2 wr hL)
        have hrall := fun (W : World) (hB : Below wr.heap.size wr W) => rall_any (some ⟨b, o + k, none⟩) 1 (c0 - k) [L] W (hone.grow hB) rfl (by rw [sizeN_cons, hm]; show 6 + m + 0 ≤ _; omega) (by simp)
        have HRALL := Lib.hid (fun (W : World) (hB : Below wr.heap.size wr W) => show Calls Try.prog 10 #[.slice (some ⟨b, o + k, none⟩) 1 (c0 - k)] W (fun e w' => e = .returned (.tuple #[.slice none 0 0, .int .i64 130]) ∧ Below W.heap.size W w') from (hrall W hB).mono (by
          rintro e w' (⟨q, _⟩ | ⟨_, he, hB⟩)
          · exact absurd (q L List.mem_cons_self) hRec
          · exact ⟨he, hB⟩))
        have HSZ := Lib.hid (fun (W : World) => show Calls Try.prog 12 #[.slice a2 m c2] W (fun e w' => e = .returned (.int .i64 0) ∧ W = w') from by
          have := size_any a2 m c2 W
          rw [show sizeE m = 0 by unfold sizeE; rw [if_neg hL]] at this
          exact this)
        have HCELL := Lib.hid cell
        have HBL := Lib.hid hb
        clear h0 e0 hc0 h1 e1 hn0 hs hn5 hl2 hy2 hone hK1 hm hy1 hL hRec hrall hlt hk hB hb hs9 hsz1
        have hWK := HWK.out
        clear HWK
        go_wp2_with (first
          | (go_at_call 11; refine HPUT.out.mono ?_; rintro e w4 ⟨rfl, hB4⟩
             have HX4 := Lib.hid hB4
             clear hB4)
          | (go_at_call 10; refine (HRALL.out w4 HX4.out).mono ?_; rintro e w5 ⟨rfl, hB5⟩
             have HB5 := Lib.hid (HX4.out.trans (hB5.mono HX4.out.size))
             have HB05 := Lib.hid (HB.out.trans (HB5.out.mono HB.out.size))
             have cva := CVS.out w5 HB05.out
             have cell5 := (HB5.out.cell (p := ⟨b, o + k, none⟩) HBL.out).trans HCELL.out
             clear hB5)
          | (go_at_call 12; refine (HSZ.out w5).mono ?_; rintro e w6 ⟨rfl, rfl⟩)
          | fail)
        go_roundw
        case rel => exact ⟨k + 1, HM.out.1, by first | rfl | rw [WK2.out], HB05.out⟩
        case measure => exact meas_succ HM.out.2 WK2.out
    · have i10 : ¬ (k : Int) < (n0 : Int) := by omega
      have HB := Lib.hid hB
      clear hlt hk hB
      go_wp2
      go_ret
      exact ⟨rfl, HB.out⟩

theorem makesW (a0 : Option Addr) (c0 : Nat) (ls : List (List Int)) (a1 : Option Addr) (n1 c1 : Nat) (z1 : List Int) (w : World) (w0 : ls.length ≤ c0 ∧ BssAt w.heap.size w a0 ls ∧ sizeN ls ≤ 10000000) (w1 : IsRow .u8 w a1 n1 c1 z1) :
    Calls Try.prog 3 #[.slice a0 ls.length c0, .slice a1 n1 c1] w fun e w' => e = .returned (.bool true) ∧ Below w.heap.size w w' := by
  obtain ⟨hc0, h0, hs0⟩ := w0
  obtain ⟨ys, e1, h1⟩ := bys8_of_row w1
  by_cases hq : 9000 < sizeN ls
  · exact makes_g1 a0 _ c0 ls a1 n1 c1 ys w h0 rfl hc0 hs0 h1 e1 hq
  · by_cases hq2 : 500 < n1
    · exact makes_g2 a0 _ c0 ls a1 n1 c1 ys w h0 rfl hc0 hs0 h1 e1 hq hq2
    · exact makes_main a0 _ c0 ls a1 n1 c1 ys w h0 rfl hc0 hs0 h1 e1 hq hq2
end Go.Proofs.Ytmhgphbafiilnaa