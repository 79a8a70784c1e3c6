/- The program's search for the first version after an instant. -/
import Derived.Test.YthlpigffjbhmoaaDoorVCheck
import Derived.Deep.LoopGhost
import Derived.Deep.Draws
set_option linter.unusedVariables false
set_option linter.unusedSimpArgs false
namespace Go.Proofs.YthlpigffjbhmoaaDoor
open Go.RowKit Go.Shelf
theorem below_drewN {B : Nat} {w X : World} (h : Below B w X) (n : Nat) : Below B w (X.drewN n) := ⟨h.os, h.tape, h.output, h.size, h.block⟩
set_option maxRecDepth 100000 in
set_option maxHeartbeats 2000000 in
theorem after1_any (a : Option Addr) (n cap : Nat) (l : List Ve) (hn : l.length = n) (t : Int) (Bl Bt i B : Nat) (v : Ve) (hv : l[i]? = some v) (w : World) (hl : w.cell? ⟨Bl, 0, none⟩ = some (.slice a n cap)) (ht : w.cell? ⟨Bt, 0, none⟩ = some (.int .i64 t)) (hA : VesAt B w a l) (hnx : n ≤ 1000) :
    Calls Tryd.prog 51 #[.int .i64 i, .pointer (some ⟨Bl, 0, none⟩), .pointer (some ⟨Bt, 0, none⟩)] w fun e w' => e = .returned (.bool (decide (t < v.f))) ∧ ∃ q, w' = w.drewN q := by
  obtain ⟨b, o, pa, pc, rfl, hbl, c0, c1, hle, hup⟩ := hA i v hv
  have hi : i < n := by rw [← hn]; exact (List.getElem?_eq_some_iff.1 hv).1
  have hii : (i : Int) < n := by omega
  obtain ⟨f, hf⟩ : ∃ f, v.f = f := ⟨_, rfl⟩
  rw [hf] at c0 ⊢
  clear hA hn hv c1 hup hle hf
  go_enter Tryd.func51, Tryd.ntmps51
  go_wp2_with fail
  go_quiet (fail)
  go_wp2
  go_ret
  exact ⟨rfl, _, rfl⟩
set_option maxRecDepth 100000 in
set_option maxHeartbeats 4000000 in
theorem search_any (a : Option Addr) (n cap : Nat) (l : List Ve) (hn : l.length = n) (t : Int) (Bl Bt B : Nat) (w : World) (hl : w.cell? ⟨Bl, 0, none⟩ = some (.slice a n cap)) (ht : w.cell? ⟨Bt, 0, none⟩ = some (.int .i64 t)) (hA : VesAt B w a l) (hnx : n ≤ 1000) (hp : l.Pairwise Ahead) :
    Calls Tryd.prog 50 #[.int .i64 n, .func (.func 51) #[] #[.pointer (some ⟨Bl, 0, none⟩), .pointer (some ⟨Bt, 0, none⟩)]] w fun e w' => e = .returned (.int .i64 (cnt l t)) ∧ ∃ q, w' = w.drewN q := by
  have HC := Lib.hid (fun (q i : Nat) (v : Ve) (hv : l[i]? = some v) => after1_any a n cap l hn t Bl Bt i B v hv (w.drewN q) hl ht hA hnx)
  have HP := Lib.hid hp
  have HN := Lib.hid hn
  obtain ⟨c, hc⟩ : ∃ c, cnt l t = c := ⟨_, rfl⟩
  have hcl := cnt_le l t
  rw [hc, hn] at hcl
  rw [hc]
  have HCN := Lib.hid hc
  clear hl ht hA hp hn hc
  go_enter Tryd.func50, Tryd.ntmps50
  go_wp2_with fail
  go_loopg [5, 6] n (fun kx s5 s6 wr => ∃ (lo hi q : Nat), s5 = .int .i64 lo ∧ s6 = .int .i64 hi ∧ lo ≤ hi ∧ hi ≤ n ∧ hi - lo ≤ kx ∧ wr = w.drewN q ∧ lo ≤ c ∧ c ≤ hi)
  case atStart => exact ⟨0, n, 0, rfl, rfl, Nat.zero_le _, Nat.le_refl _, by omega, rfl, Nat.zero_le _, hcl⟩
  case round =>
    obtain ⟨lo, hi, q, rfl, rfl, hlh, hin, hg, rfl, hlc, hch⟩ := hrel
    by_cases hlt : lo < hi
    · have hlti : (lo : Int) < hi := by omega
      obtain ⟨v, hv⟩ : ∃ v, l[(lo + hi) / 2]? = some v := ⟨_, List.getElem?_eq_getElem (by rw [HN.out]; omega)⟩
      have hcc := HC.out q ((lo + hi) / 2) v hv
      have hiff := cnt_iff HP.out hv t
      rw [HCN.out] at hiff
      rw [show (((lo + hi) / 2 : Nat) : Int) = ((lo : Int) + (hi : Int)) / 2 by omega] at hcc
      by_cases hf : t < v.f
      · rw [decide_eq_true hf] at hcc
        have HI := Lib.hid (show c ≤ (lo + hi) / 2 by omega)
        have HCC := Lib.hid hcc
        clear hcc hiff hf hv
        go_wp2_with fail
        refine HCC.out.mono ?_
        rintro e w' ⟨rfl, nq, rfl⟩
        go_wp2
        go_roundg ((lo + hi) / 2 - lo)
        case measure => omega
        case rel => exact ⟨lo, (lo + hi) / 2, q + nq, rfl, by rw [show ((lo : Int) + (hi : Int)) / 2 = (((lo + hi) / 2 : Nat) : Int) by omega], by omega, by omega, Nat.le_refl _, rfl, hlc, HI.out⟩
      · rw [decide_eq_false hf] at hcc
        have HI := Lib.hid (show (lo + hi) / 2 + 1 ≤ c by omega)
        have HCC := Lib.hid hcc
        clear hcc hiff hf hv
        go_wp2_with fail
        refine HCC.out.mono ?_
        rintro e w' ⟨rfl, nq, rfl⟩
        go_wp2
        go_roundg (hi - ((lo + hi) / 2 + 1))
        case measure => omega
        case rel => exact ⟨(lo + hi) / 2 + 1, hi, q + nq, by rw [show ((lo : Int) + (hi : Int)) / 2 + 1 = (((lo + hi) / 2 + 1 : Nat) : Int) by omega], rfl, by have := HI.out; omega, hin, Nat.le_refl _, rfl, HI.out, hch⟩
    · obtain rfl : hi = lo := by omega
      obtain rfl : c = hi := by omega
      go_wp2
      go_ret
      exact ⟨rfl, q, rfl⟩
set_option maxRecDepth 100000 in
set_option maxHeartbeats 2000000 in
theorem after_any (a : Option Addr) (n cap : Nat) (l : List Ve) (hn : l.length = n) (t : Int) (w : World) (hA : VesAt w.heap.size w a l) (ht : TabMay l) :
    Calls Tryd.prog 36 #[.slice a n cap, .int .i64 t] w fun e w' => e = .returned (.int .i64 (cnt l t)) ∧ Below w.heap.size w w' := by
  have hb1 := ((Below.refl _ w).alloc (Nat.le_refl _) (.cells #[.slice a n cap] 22)).alloc (by simp) (.cells #[.int .i64 t] 2)
  have z0 : ((w.alloc (.cells #[.slice a n cap] 22)).alloc (.cells #[.int .i64 t] 2)).heap[w.heap.size]? = some (.cells #[.slice a n cap] 22 (0, 0)) := heap_old (heap_alloc_new w _) _
  have z1 : ((w.alloc (.cells #[.slice a n cap] 22)).alloc (.cells #[.int .i64 t] 2)).heap[w.heap.size + 1]? = some (.cells #[.int .i64 t] 2 (0, 0)) := by
    have := heap_alloc_new (w.alloc (.cells #[.slice a n cap] 22)) (.cells #[.int .i64 t] 2); rw [World.size_alloc] at this; exact this
  have HS := Lib.hid (search_any a n cap l hn t w.heap.size (w.heap.size + 1) w.heap.size _ (cell_of_row _ _ 0 _ _ _ z0) (cell_of_row _ _ 0 _ _ _ z1) (hA.next hb1 (Nat.le_refl _)) (by have := tab_len ht; omega) (tab_pair _ l rfl ht))
  have HB := Lib.hid hb1
  clear hb1 z0 z1 hA ht hn
  go_enter Tryd.func36, Tryd.ntmps36
  go_wp2_with fail
  refine HS.out.mono ?_
  rintro e w' ⟨rfl, q, rfl⟩
  go_wp2
  go_ret
  exact ⟨rfl, below_drewN HB.out q⟩
end Go.Proofs.YthlpigffjbhmoaaDoor
