/- Put, All. -/
import Derived.Test.YtpcbolmidnoaiaaFApp
import Derived.Test.YtpcbolmidnoaiaaFRows
set_option linter.unusedVariables false
set_option linter.unusedSimpArgs false
namespace Go.Proofs.Ytpcbolmidnoaiaa
open Go.RowKit Go.Shelf
theorem isLength_yes {n : Nat} (h : 1 ≤ n ∧ n ≤ 4096) (w : World) : Calls Try.prog 49 #[.int .i64 (n : Int)] w fun e w' => e = .returned (.bool true) ∧ w = w' := by
  have := isLength_any n w
  rw [isLen_yes h] at this
  exact this
theorem isLength_no {n : Nat} (h : ¬ (1 ≤ n ∧ n ≤ 4096)) (w : World) : Calls Try.prog 49 #[.int .i64 (n : Int)] w fun e w' => e = .returned (.bool false) ∧ w = w' := by
  have := isLength_any n w
  rw [isLen_no h] at this
  exact this
/-- The call returns the bytes zs in memory of its own, and no error; or the error alone. -/
def Gives (zs : List Int) (w : World) (e : Ending) (w' : World) : Prop := ∃ a c, e = .returned (.tuple #[.slice a zs.length c, .int .i64 0]) ∧ Own8 w.heap.size w' (.slice a zs.length c) zs ∧ Below w.heap.size w w'
def Refused (w : World) (e : Ending) (w' : World) : Prop := e = .returned (.tuple #[.slice none 0 0, .int .i64 130]) ∧ Below w.heap.size w w'
theorem wrap_nat {k : Nat} (h : k < 9223372036854775808) : wrap64 (k : Int) = (k : Int) := by unfold wrap64; omega
theorem wrap_succ {k : Nat} (h : k < 9223372036854775807) : wrap64 ((k : Int) + 1) = ((k + 1 : Nat) : Int) := by unfold wrap64; omega
/-- All: the frames of all, or the error. -/
def AllE (ls : List (List Int)) (w : World) (e : Ending) (w' : World) : Prop := ((∀ L ∈ ls, RecL L) ∧ Gives (ls.map frameL).flatten w e w') ∨ (¬ (∀ L ∈ ls, RecL L) ∧ Refused w e w')
set_option maxRecDepth 100000 in
set_option maxHeartbeats 1000000 in
theorem all_any (a : Option Addr) (c : Nat) (ls : List (List Int)) (w : World) (h : BssAt w.heap.size w a ls) (hs : sizeN ls ≤ 10000000) (hl : ls.length ≤ 10000000) :
    Calls Try.prog 33 #[.slice a ls.length c] w (AllE ls w) := by
  obtain ⟨n, hn⟩ : ∃ n, ls.length = n := ⟨_, rfl⟩
  have HX := Lib.hid h
  have HL := Lib.hid (And.intro hs (And.intro hl hn))
  rw [hn]
  clear h hs hl hn
  go_enter Try.func33, Try.ntmps33
  go_wp2
  go_loopw [4, 9] (fun s i wr => ∃ (k N : Nat) (a' : Option Addr) (c' : Nat), k ≤ n ∧ i = .int .i64 (k : Int) ∧ s = .slice a' N c' ∧ Own8 w.heap.size wr (.slice a' N c') ((ls.take k).map frameL).flatten ∧ (∀ L ∈ ls.take k, RecL L) ∧ Below w.heap.size w wr) (fun _ i _ => (n - intOf i).toNat)
  case atStart => exact ⟨0, 0, none, 0, Nat.zero_le _, rfl, rfl, Own8.nil _ _, (fun L hL => by simp at hL), Below.refl _ _⟩
  case round =>
    obtain ⟨k, N, a', c', hk, rfl, rfl, hO, hR, hB⟩ := hrel
    obtain ⟨_, _, eN⟩ := hO.form
    by_cases hlt : k < n
    · have i1 : (k : Int) < n := by omega
      have wk := wrap_succ (k := k) (by have := HL.out; omega)
      obtain ⟨b, o, a2, c2, rfl, hb, h0, h1, h2⟩ := (HX.out.next hB (Nat.le_refl _)).at k (by have := HL.out; omega)
      have hfs := frames_snoc ls k (by have := HL.out; omega)
      have hts : ∀ M ∈ ls.take (k + 1), M ∈ ls.take k ∨ M = ls.getD k [] := fun M hM => by
        rw [List.take_succ_eq_append_getElem (by have := HL.out; omega)] at hM
        rcases List.mem_append.1 hM with q | q
        · exact .inl q
        · right
          rw [List.mem_singleton.1 q]
          simp [List.getD, show k < ls.length by have := HL.out; omega]
      have hmem : ls.getD k [] ∈ ls := by
        rw [show ls.getD k [] = ls[k]'(by have := HL.out; omega) by simp [List.getD, show k < ls.length by have := HL.out; omega]]
        exact List.getElem_mem _
      have hsz := size_take_le ls k
      generalize ls.getD k [] = L at *
      obtain ⟨m, hm⟩ : ∃ m, L.length = m := ⟨_, rfl⟩
      rw [hm] at h0 h1 h2
      by_cases hL : 1 ≤ m ∧ m ≤ 4096
      · have HIL := Lib.hid (isLength_yes hL wr)
        have hA := appendFrame_any w.heap.size a' N c' _ a2 m c2 L wr hO h2 hB.size (by omega) (by have := HL.out; unfold sizeN at hsz this; omega)
        have HR := Lib.hid (show ∀ M ∈ ls.take (k + 1), RecL M from fun M hM => (hts M hM).elim (hR M) (fun e => by rw [e]; unfold RecL; omega))
        rw [← hfs] at hA
        unfold Grew at hA
        obtain ⟨N2, hN2⟩ : ∃ N2, ((ls.take (k + 1)).map frameL).flatten.length = N2 := ⟨_, rfl⟩
        rw [hN2] at hA
        have HA := Lib.hid hA
        have HK := Lib.hid (And.intro hlt hB)
        clear hO h2 h1 hb hL hm hfs hts hmem hsz hR eN hB hlt hk hA hN2
        go_wp2_with (first
          | (go_at_call 49; refine HIL.out.mono ?_; rintro e w' ⟨rfl, rfl⟩)
          | (go_at_call 50; refine HA.out.mono ?_; rintro e w3 ⟨a3, c3, rfl, hO3, hB3⟩; have HO3 := Lib.hid (And.intro hO3 (HK.out.2.trans hB3)); clear hO3 hB3)
          | fail)
        go_roundw
        case rel => exact ⟨k + 1, _, a3, c3, HK.out.1, by first | rfl | rw [wk], rfl, HO3.out.1, HR.out, HO3.out.2⟩
        case measure =>
          have hk2 := HK.out.1
          first
            | (show ((n : Int) - intOf (.int .i64 (wrap64 ((k : Int) + 1)))).toNat < ((n : Int) - intOf (.int .i64 (k : Int))).toNat; rw [wk])
            | (show ((n : Int) - intOf (.int .i64 ((k + 1 : Nat) : Int))).toNat < ((n : Int) - intOf (.int .i64 (k : Int))).toNat)
            | (show ((n : Int) - intOf (.int .i64 ((k : Int) + 1))).toNat < ((n : Int) - intOf (.int .i64 (k : Int))).toNat)
          first
            | (show ((n : Int) - ((k + 1 : Nat) : Int)).toNat < ((n : Int) - ((k : Nat) : Int)).toNat; omega)
            | (show ((n : Int) - ((k : Int) + 1)).toNat < ((n : Int) - ((k : Nat) : Int)).toNat; omega)
      · have HIL := Lib.hid (isLength_no hL wr)
        have HE := Lib.hid (show ¬ ∀ M ∈ ls, RecL M from fun q => hL (by have := q L hmem; unfold RecL at this; omega))
        have HB := Lib.hid hB
        clear hO h2 h1 hb hL hm hfs hts hmem hsz hR eN hB hlt hk
        go_wp2_with (refine HIL.out.mono ?_; rintro e w' ⟨rfl, rfl⟩)
        go_ret2
        exact .inr ⟨HE.out, rfl, HB.out⟩
    · have i1 : ¬ (k : Int) < n := by omega
      have hkn : k = n := by omega
      have hnl : ls.length = n := HL.out.2.2
      rw [List.take_of_length_le (by omega)] at hO hR
      have HO := Lib.hid (And.intro hO (And.intro hR hB))
      clear hO hR hB hkn hnl hlt hk eN
      go_wp2
      go_ret2
      obtain ⟨hO, hR, hB⟩ := HO.out
      obtain ⟨_, _, e⟩ := hO.form
      cases e
      exact .inl ⟨hR, _, _, rfl, hO, hB⟩
end Go.Proofs.Ytpcbolmidnoaiaa
