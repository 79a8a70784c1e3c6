/- The program's Check of a tariff. -/
import Derived.Test.YtbffmobjiiicoaaDoorTTar
import Derived.LoopN
import Derived.LoopTactic
set_option linter.unusedVariables false
set_option linter.unusedSimpArgs false
namespace Go.Proofs.YtbffmobjiiicoaaDoor
open Go.RowKit Go.Shelf
def TarBox (W : World) (b : Nat) (x : Ta) : Prop := W.heap[b]? = some (.cells (tarC x) 40 (0, 0))
section
variable {W X : World} {b : Nat} {x : Ta}
theorem TarBox.lt (h : TarBox W b x) : b < W.heap.size := (Array.getElem?_eq_some_iff.1 h).1
theorem TarBox.next (h : TarBox W b x) (hB : Below W.heap.size W X) : TarBox X b x := (hB.block b h.lt).trans h
theorem TarBox.cells (h : TarBox W b x) : W.cell? ⟨b, 0, none⟩ = some (.int .i64 x.off) ∧ W.cell? ⟨b, 1, none⟩ = some (.slice x.za x.zl x.zc) ∧ W.cell? ⟨b, 2, none⟩ = some (.slice x.ha x.hl x.hc) ∧ W.cell? ⟨b, 3, none⟩ = some (.slice x.sa x.sl x.sc) ∧ W.cell? ⟨b, 4, none⟩ = some (.slice x.pa x.pl x.pc) ∧ W.cell? ⟨b, 5, none⟩ = some (.slice x.ra x.rl x.rc) ∧ W.cell? ⟨b, 6, none⟩ = some (.slice x.va x.l.length x.vc) :=
  ⟨cell_of_row W b 0 _ _ _ h, cell_of_row W b 1 _ _ _ h, cell_of_row W b 2 _ _ _ h, cell_of_row W b 3 _ _ _ h, cell_of_row W b 4 _ _ _ h, cell_of_row W b 5 _ _ _ h, cell_of_row W b 6 _ _ _ h⟩
end
section
variable (b : Nat) (x : Ta) (w : World) (hb : TarBox w b x) (hA : TarAt w.heap.size w x) (hL : TarLen x)
include hb hA hL
theorem chk1_any : Calls Tryd.prog 26 #[.pointer (some ⟨b, 0, none⟩)] w fun e w' => e = .returned (.int .i64 (zE x.off x.R x.zl)) ∧ Below w.heap.size w w' := by
  obtain ⟨c0, c1, c2, c3, c4, c5, c6⟩ := hb.cells
  have HC := Lib.hid (checkZ_any x.off x.za x.zl x.zc x.R w hL.z hA.z)
  clear hb hA hL
  go_enter Tryd.func26, Tryd.ntmps26
  go_wp2_with fail
  refine HC.out.mono ?_
  rintro e w' ⟨rfl, hB⟩
  go_wp2
  go_ret
  exact ⟨rfl, hB⟩
theorem chk2_any (hT : Tabs w) : Calls Tryd.prog 28 #[.pointer (some ⟨b, 0, none⟩)] w fun e w' => e = .returned (.int .i64 (H8.calE x.H x.hl x.S x.sl)) ∧ Below w.heap.size w w' := by
  obtain ⟨c0, c1, c2, c3, c4, c5, c6⟩ := hb.cells
  have HC := Lib.hid (H8.checkD_any x.ha x.hl x.hc x.sa x.sl x.sc x.H x.S w hA.h hA.s hT hL.h hL.s)
  clear hb hA hL hT
  go_enter Tryd.func28, Tryd.ntmps28
  go_wp2_with fail
  refine HC.out.mono ?_
  rintro e w' ⟨rfl, hB⟩
  go_wp2
  go_ret
  exact ⟨rfl, hB⟩
theorem chk3_any : Calls Tryd.prog 30 #[.pointer (some ⟨b, 0, none⟩)] w fun e w' => e = .returned (.int .i64 (B9.tErr x.P x.pl x.Q x.rl)) ∧ Below w.heap.size w w' := by
  obtain ⟨c0, c1, c2, c3, c4, c5, c6⟩ := hb.cells
  have HC := Lib.hid (B9.checkT_any x.pa x.pl x.pc x.ra x.rl x.rc x.P x.Q w hA.p hA.q hL.p hL.q)
  clear hb hA hL
  go_enter Tryd.func30, Tryd.ntmps30
  go_wp2_with fail
  refine HC.out.mono ?_
  rintro e w' ⟨rfl, hB⟩
  go_wp2
  go_ret
  exact ⟨rfl, hB⟩
theorem chk4_any : Calls Tryd.prog 32 #[.pointer (some ⟨b, 0, none⟩)] w fun e w' => e = .returned (.int .i64 (V10.tErr x.l)) ∧ Below w.heap.size w w' := by
  obtain ⟨c0, c1, c2, c3, c4, c5, c6⟩ := hb.cells
  have HC := Lib.hid (V10.check_any x.va x.l.length x.vc x.l rfl w hA.v hL.v)
  clear hb hA hL
  go_enter Tryd.func32, Tryd.ntmps32
  go_wp2_with fail
  refine HC.out.mono ?_
  rintro e w' ⟨rfl, hB⟩
  go_wp2
  go_ret
  exact ⟨rfl, hB⟩
end
theorem pE_nil : pE [] = 110 := if_neg (fun h => h.1 rfl)
theorem pE_bad {l : List V10.Ve} {k : Nat} {v : V10.Ve} (h : l[k]? = some v) (hv : v.ps.length ≠ 8) : pE l = 110 := if_neg fun q => hv (q.2 v (List.mem_of_getElem? h))
theorem pE_good {l : List V10.Ve} (h0 : l ≠ []) (h : ∀ (k : Nat) (v : V10.Ve), l[k]? = some v → v.ps.length = 8) : pE l = 0 := if_pos ⟨h0, fun v hv => by
  obtain ⟨k, hk, e⟩ := List.getElem_of_mem hv
  exact h k v (by rw [List.getElem?_eq_getElem hk, e])⟩
set_option maxHeartbeats 1000000 in
theorem prices_any (a : Option Addr) (n cap : Nat) (l : List V10.Ve) (hn : l.length = n) (w : World) (hA : V10.VesAt w.heap.size w a l) (hnx : n ≤ cap ∧ cap ≤ maxLen) :
    Calls Tryd.prog 35 #[.slice a n cap] w fun e w' => e = .returned (.int .i64 (pE l)) ∧ Below w.heap.size w w' := by
  have hm : n ≤ 9223372036854775807 := by have := hnx; unfold maxLen at this; omega
  by_cases h0 : n = 0
  · obtain rfl : l = [] := by cases l with
      | nil => rfl
      | cons x r => simp at hn; omega
    subst h0
    rw [pE_nil]
    clear hA hn hnx hm
    go_enter Tryd.func35, Tryd.ntmps35
    go_wp2
    go_ret
    exact ⟨rfl, Below.refl _ _⟩
  have hz : ((n : Int) == 0) = false := by simp; omega
  have HN := Lib.hid hn
  have HA := Lib.hid hA
  have HM := Lib.hid hm
  have H0 := Lib.hid h0
  clear hn hA hnx hm h0
  go_enter Tryd.func35, Tryd.ntmps35
  go_wp2
  go_loopw [10] (fun i wr => ∃ k : Nat, k ≤ n ∧ i = .int .i64 k ∧ (∀ (j : Nat) (v : V10.Ve), j < k → l[j]? = some v → v.ps.length = 8) ∧ Below w.heap.size w wr) (fun i _ => n - (intOf i).toNat)
  case atStart => exact ⟨0, Nat.zero_le _, rfl, fun j v hj => absurd hj (Nat.not_lt_zero _), Below.refl _ _⟩
  case round =>
    obtain ⟨k, hk, rfl, hall, hB⟩ := hrel
    have HB := Lib.hid hB
    have HALL := Lib.hid hall
    by_cases hlt : k < n
    · obtain ⟨v, hv⟩ : ∃ v, l[k]? = some v := ⟨_, List.getElem?_eq_getElem (by rw [HN.out]; exact hlt)⟩
      obtain ⟨ab, ao, a', c', rfl, hb, c0, c1, hc, hp⟩ := (HA.out.next hB (Nat.le_refl _)) k v hv
      have hd : decide (k < n) = true := by simpa using hlt
      have i1 : (k : Int) < n := by omega
      have wk : wrap64 ((k : Int) + 1) = ((k + 1 : Nat) : Int) := by have := HM.out; unfold wrap64; omega
      have HV := Lib.hid hv
      have HK := Lib.hid hlt
      have HBX := Lib.hid (hB.alloc hB.size (.cells #[.int .i64 v.f, .slice a' v.ps.length c'] 44))
      clear hB hall hv hlt hk hc hp hb
      by_cases h8 : v.ps.length = 8
      · have h8' : ((v.ps.length : Int) != 8) = false := by simp [h8]
        have H8' := Lib.hid h8
        clear h8
        go_wp2
        go_roundw
        case rel =>
          refine ⟨k + 1, HK.out, by first | rfl | rw [wk], fun j u hj hu => ?_, HBX.out⟩
          rcases Nat.lt_or_ge j k with q | q
          · exact HALL.out j u q hu
          · obtain rfl : j = k := by omega
            rw [HV.out] at hu
            cases hu
            exact H8'.out
        case measure =>
          have hk2 := HK.out
          first
            | (show n - (intOf (.int .i64 (wrap64 ((k : Int) + 1)))).toNat < n - (intOf (.int .i64 (k : Int))).toNat; rw [wk])
            | (show n - (intOf (.int .i64 ((k + 1 : Nat) : Int))).toNat < n - (intOf (.int .i64 (k : Int))).toNat)
          show n - ((k + 1 : Nat) : Int).toNat < n - ((k : Nat) : Int).toNat
          omega
      · have h8' : ((v.ps.length : Int) != 8) = true := by simp; omega
        have HE := Lib.hid (pE_bad HV.out h8)
        clear h8
        go_wp2
        go_ret
        exact ⟨by rw [HE.out]; rfl, HBX.out⟩
    · have hd : decide (k < n) = false := by simpa using hlt
      have e := pE_good (l := l) (fun q => H0.out (by rw [← HN.out, q]; rfl)) (fun j v hv => HALL.out j v (by
        have := (List.getElem?_eq_some_iff.1 hv).1
        rw [HN.out] at this
        omega) hv)
      have HE := Lib.hid e
      clear hB hall hlt hk e
      go_wp2
      go_ret
      exact ⟨by rw [HE.out]; rfl, HB.out⟩
theorem chk5_any (b : Nat) (x : Ta) (w : World) (hb : TarBox w b x) (hA : TarAt w.heap.size w x) (hL : TarLen x) : Calls Tryd.prog 34 #[.pointer (some ⟨b, 0, none⟩)] w fun e w' => e = .returned (.int .i64 (pE x.l)) ∧ Below w.heap.size w w' := by
  obtain ⟨c0, c1, c2, c3, c4, c5, c6⟩ := hb.cells
  have HC := Lib.hid (prices_any x.va x.l.length x.vc x.l rfl w hA.v hL.v)
  clear hb hA hL
  go_enter Tryd.func34, Tryd.ntmps34
  go_wp2_with fail
  refine HC.out.mono ?_
  rintro e w' ⟨rfl, hB⟩
  go_wp2
  go_ret
  exact ⟨rfl, hB⟩
end Go.Proofs.YtbffmobjiiicoaaDoor
