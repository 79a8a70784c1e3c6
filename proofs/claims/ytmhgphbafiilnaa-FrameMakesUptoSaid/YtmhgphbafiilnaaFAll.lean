/- Put, All. -/
import Derived.Test.YtmhgphbafiilnaaFApp
import Derived.Test.YtmhgphbafiilnaaFRows
set_option linter.unusedVariables false
set_option linter.unusedSimpArgs false
namespace Go.Proofs.Ytmhgphbafiilnaa
open Go.RowKit Go.Shelf
theorem isLength_yes {n : Nat} (h : 1 ≤ n ∧ n ≤ 4096) (w : World) : Calls Try.prog 19 #[.int .i64 (n : Int)] w fun e w' => e = .returned (.bool true) ∧ w = w' := by
  have := isLength_any n w
  rw [isLen_yes h] at this
  exact this
theorem isLength_no {n : Nat} (h : ¬ (1 ≤ n ∧ n ≤ 4096)) (w : World) : Calls Try.prog 19 #[.int .i64 (n : Int)] w fun e w' => e = .returned (.bool false) ∧ w = w' := by
  have := isLength_any n w
  rw [isLen_no h] at this
  exact this
/-- The call returns the bytes zs in memory of its own, and no error; or the error alone. -/
def Gives (zs : List Int) (w : World) (e : Ending) (w' : World) : Prop := ∃ a c, e = .returned (.tuple #[.slice a zs.length c, .int .i64 0]) ∧ Own8 w.heap.size w' (.slice a zs.length c) zs ∧ Below w.heap.size w w'
def Refused (w : World) (e : Ending) (w' : World) : Prop := e = .returned (.tuple #[.slice none 0 0, .int .i64 130]) ∧ Below w.heap.size w w'
set_option maxRecDepth 100000 in
set_option maxHeartbeats 1000000 in
theorem put_no (a : Option Addr) (n c : Nat) (b : Option Addr) (m d : Nat) (w : World) (hL : ¬ (1 ≤ m ∧ m ≤ 4096)) :
    Calls Try.prog 11 #[.slice a n c, .slice b m d] w (Refused w) := by
  have HL := Lib.hid (isLength_no hL w)
  clear hL
  go_enter Try.func11, Try.ntmps11
  go_wp2_with (refine HL.out.mono ?_; rintro e w' ⟨rfl, rfl⟩)
  go_ret2
  exact ⟨rfl, Below.refl _ _⟩
set_option maxRecDepth 100000 in
set_option maxHeartbeats 1000000 in
theorem put_yes (a : Option Addr) (n c : Nat) (ys : List Int) (b : Option Addr) (m d : Nat) (L : List Int) (w : World) (hI : Bys8 w.heap.size w (.slice a n c) ys) (hJ : Bys8 w.heap.size w (.slice b m d) L) (hL : RecL L) (hy : ys.length ≤ 1000000) :
    Calls Try.prog 11 #[.slice a n c, .slice b m d] w (Gives (ys ++ frameL L) w) := by
  obtain ⟨i0, hi, hz0, hz1, hz2⟩ := parts8
  obtain ⟨a1, c1, e1⟩ := hI.is
  cases e1
  obtain ⟨b1, d1, e2⟩ := hJ.is
  cases e2
  obtain ⟨n0, hn0⟩ : ∃ n0, ys.length = n0 := ⟨_, rfl⟩
  obtain ⟨m0, hm0⟩ : ∃ m0, L.length = m0 := ⟨_, rfl⟩
  unfold RecL at hL
  rw [hm0] at hL
  rw [hn0] at hI hy ⊢
  rw [hm0] at hJ ⊢
  have HI0 := Lib.hid hi
  have HZ0 := Lib.hid hz0
  have HZ1 := Lib.hid hz1
  have HZ2 := Lib.hid hz2
  have HN := Lib.hid (show n0 ≤ 1000000 ∧ m0 ≤ 4096 ∧ ys.length = n0 ∧ L.length = m0 ∧ (frameL L).length = 6 + m0 from ⟨hy, hL.2, hn0, hm0, by rw [frameL_len, hm0]⟩)
  have HL := Lib.hid (isLength_yes hL w)
  have HSZ := Lib.hid (show Calls Try.prog 12 #[.slice b m0 d] w (fun e w' => e = .returned (.int .i64 (6 + (m0 : Int))) ∧ w = w') from by
    have := size_any b m0 d w
    rw [show sizeE m0 = 6 + m0 by unfold sizeE; rw [if_pos hL]] at this
    exact this)
  have wk : wrap64 ((n0 : Int) + (6 + (m0 : Int))) = (n0 : Int) + (6 + (m0 : Int)) := by unfold wrap64; omega
  have HX := Lib.hid (And.intro hI hJ)
  have HP := Lib.hid (show (ys ++ frameL L).length = n0 + (6 + m0) by have := HN.out; rw [List.length_append]; omega)
  clear hi hz0 hz1 hz2 hI hJ hL hy hn0 hm0
  go_enter Try.func11, Try.ntmps11
  go_wp2_with (first
    | (go_at_call 19; refine HL.out.mono ?_; rintro e w' ⟨rfl, rfl⟩)
    | (go_at_call 12; refine HSZ.out.mono ?_; rintro e w' ⟨rfl, rfl⟩)
    | (at_make; refine wpList_make_own _ rfl _ _ 23 rfl w.heap.size 5 i0 (.int .u8 0) 1 Try.underlying23 HI0.out HZ0.out HZ1.out .i64 .i64 _ (n0 + (6 + m0)) rfl rfl (by omega) (by have := HN.out; rw [HZ2.out]; omega) (by have := HN.out; unfold maxLen; omega) (Nat.le_refl _) ?_; intro w1 hO1 hG1
       have hB1 : Below w.heap.size w w1 := (Below.refl _ _).grown hG1 (Nat.le_refl _) (by simp)
       have hP1 : Own8 w.heap.size w1 (.slice (some ⟨w.heap.size, 0, none⟩) 0 (n0 + (6 + m0))) [] := ⟨by simp, hO1⟩
       clear hO1 hG1)
    | (at_builtin; refine bapp8N rfl (.tmp 17) (.tmp 18) rfl w.heap.size _ [] rfl hP1 w.heap.size a _ c ys rfl (HX.out.1.below hB1) n0 (by have := HN.out; simp; omega) (by have := HN.out; omega) hB1.size ?_; intro a2 c2' w2 hO2 hB2
       have hB02 := hB1.trans hB2)
    | (go_at_call 20; refine (appendFrame_any w.heap.size a2 n0 c2' ([] ++ ys) b m0 d L w2 hO2 (HX.out.2.below hB02) hB02.size (by have := HN.out; omega) (by have := HN.out; simp; omega)).mono ?_; rintro e w3 ⟨a3, c3, rfl, hO3, hB3⟩)
    | fail)
  go_ret2
  exact ⟨a3, c3, by rw [List.length_append]; rfl, hO3, hB02.trans hB3⟩
theorem wrap_nat {k : Nat} (h : k < 9223372036854775808) : wrap64 (k : Int) = (k : Int) := by unfold wrap64; omega
theorem wrap_succ {k : Nat} (h : k < 9223372036854775807) : wrap64 ((k : Int) + 1) = ((k + 1 : Nat) : Int) := by unfold wrap64; omega
/-- All: the frames of all, or the error. -/
def AllE (ls : List (List Int)) (w : World) (e : Ending) (w' : World) : Prop := ((∀ L ∈ ls, RecL L) ∧ Gives (ls.map frameL).flatten w e w') ∨ (¬ (∀ L ∈ ls, RecL L) ∧ Refused w e w')
set_option maxRecDepth 100000 in
set_option maxHeartbeats 1000000 in
theorem all_any (a : Option Addr) (c : Nat) (ls : List (List Int)) (w : World) (h : BssAt w.heap.size w a ls) (hs : sizeN ls ≤ 10000000) (hl : ls.length ≤ 10000000) :
    Calls Try.prog 9 #[.slice a ls.length c] w (AllE ls w) := by
  obtain ⟨n, hn⟩ : ∃ n, ls.length = n := ⟨_, rfl⟩
  have HX := Lib.hid h
  have HL := Lib.hid (And.intro hs (And.intro hl hn))
  rw [hn]
  clear h hs hl hn
  go_enter Try.func9, Try.ntmps9
  go_wp2
  go_loopw [4, 9] (fun s i wr => ∃ (k N : Nat) (a' : Option Addr) (c' : Nat), k ≤ n ∧ i = .int .i64 (k : Int) ∧ s = .slice a' N c' ∧ Own8 w.heap.size wr (.slice a' N c') ((ls.take k).map frameL).flatten ∧ (∀ L ∈ ls.take k, RecL L) ∧ Below w.heap.size w wr) (fun _ i _ => (n - intOf i).toNat)
  case atStart => exact ⟨0, 0, none, 0, Nat.zero_le _, rfl, rfl, Own8.nil _ _, (fun L hL => by simp at hL), Below.refl _ _⟩
  case round =>
    obtain ⟨k, N, a', c', hk, rfl, rfl, hO, hR, hB⟩ := hrel
    obtain ⟨_, _, eN⟩ := hO.form
    by_cases hlt : k < n
    · have i1 : (k : Int) < n := by omega
      have wk := wrap_succ (k := k) (by have := HL.out; omega)
      obtain ⟨b, o, a2, c2, rfl, hb, h0, h1, h2⟩ := (HX.out.next hB (Nat.le_refl _)).at k (by have := HL.out; omega)
      have hfs := frames_snoc ls k (by have := HL.out; omega)
      have hts : ∀ M ∈ ls.take (k + 1), M ∈ ls.take k ∨ M = ls.getD k [] := fun M hM => by
        rw [List.take_succ_eq_append_getElem (by have := HL.out; omega)] at hM
        rcases List.mem_append.1 hM with q | q
        · exact .inl q
        · right
          rw [List.mem_singleton.1 q]
          simp [List.getD, show k < ls.length by have := HL.out; omega]
      have hmem : ls.getD k [] ∈ ls := by
        rw [show ls.getD k [] = ls[k]'(by have := HL.out; omega) by simp [List.getD, show k < ls.length by have := HL.out; omega]]
        exact List.getElem_mem _
      have hsz := size_take_le ls k
      generalize ls.getD k [] = L at *
      obtain ⟨m, hm⟩ : ∃ m, L.length = m := ⟨_, rfl⟩
      rw [hm] at h0 h1 h2
      by_cases hL : 1 ≤ m ∧ m ≤ 4096
      · have HIL := Lib.hid (isLength_yes hL wr)
        have hA := appendFrame_any w.heap.size a' N c' _ a2 m c2 L wr hO h2 hB.size (by omega) (by have := HL.out; unfold sizeN at hsz this; omega)
        have HR := Lib.hid (show ∀ M ∈ ls.take (k + 1), RecL M from fun M hM => (hts M hM).elim (hR M) (fun e => by rw [e]; unfold RecL; omega))
        rw [← hfs] at hA
        unfold Grew at hA
        obtain ⟨N2, hN2⟩ : ∃ N2, ((ls.take (k + 1)).map frameL).flatten.length = N2 := ⟨_, rfl⟩
        rw [hN2] at hA
        have HA := Lib.hid hA
        have HK := Lib.hid (And.intro hlt hB)
        clear hO h2 h1 hb hL hm hfs hts hmem hsz hR eN hB hlt hk hA hN2
        go_wp2_with (first
          | (go_at_call 19; refine HIL.out.mono ?_; rintro e w' ⟨rfl, rfl⟩)
          | (go_at_call 20; refine HA.out.mono ?_; rintro e w3 ⟨a3, c3, rfl, hO3, hB3⟩; have HO3 := Lib.hid (And.intro hO3 (HK.out.2.trans hB3)); clear hO3 hB3)
          | fail)
        go_roundw
        case rel => exact ⟨k + 1, _, a3, c3, HK.out.1, by first | rfl | rw [wk], rfl, HO3.out.1, HR.out, HO3.out.2⟩
        case measure =>
          have hk2 := HK.out.1
          first
            | (show ((n : Int) - intOf (.int .i64 (wrap64 ((k : Int) + 1)))).toNat < ((n : Int) - intOf (.int .i64 (k : Int))).toNat; rw [wk])
            | (show ((n : Int) - intOf (.int .i64 ((k + 1 : Nat) : Int))).toNat < ((n : Int) - intOf (.int .i64 (k : Int))).toNat)
            | (show ((n : Int) - intOf (.int .i64 ((k : Int) + 1))).toNat < ((n : Int) - intOf (.int .i64 (k : Int))).toNat)
          first
            | (show ((n : Int) - ((k + 1 : Nat) : Int)).toNat < ((n : Int) - ((k : Nat) : Int)).toNat; omega)
            | (show ((n : Int) - ((k : Int) + 1)).toNat < ((n : Int) - ((k : Nat) : Int)).toNat; omega)
      · have HIL := Lib.hid (isLength_no hL wr)
        have HE := Lib.hid (show ¬ ∀ M ∈ ls, RecL M from fun q => hL (by have := q L hmem; unfold RecL at this; omega))
        have HB := Lib.hid hB
        clear hO h2 h1 hb hL hm hfs hts hmem hsz hR eN hB hlt hk
        go_wp2_with (refine HIL.out.mono ?_; rintro e w' ⟨rfl, rfl⟩)
        go_ret2
        exact .inr ⟨HE.out, rfl, HB.out⟩
    · have i1 : ¬ (k : Int) < n := by omega
      have hkn : k = n := by omega
      have hnl : ls.length = n := HL.out.2.2
      rw [List.take_of_length_le (by omega)] at hO hR
      have HO := Lib.hid (And.intro hO (And.intro hR hB))
      clear hO hR hB hkn hnl hlt hk eN
      go_wp2
      go_ret2
      obtain ⟨hO, hR, hB⟩ := HO.out
      obtain ⟨_, _, e⟩ := hO.form
      cases e
      exact .inl ⟨hR, _, _, rfl, hO, hB⟩
end Go.Proofs.Ytmhgphbafiilnaa
