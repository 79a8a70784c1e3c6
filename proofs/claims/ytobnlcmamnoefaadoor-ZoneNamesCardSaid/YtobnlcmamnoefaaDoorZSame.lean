/- Contract of the document's function Same: two lists. -/
import Derived.Test.YtobnlcmamnoefaaDoorKRNth
set_option linter.unusedVariables false
set_option linter.unusedSimpArgs false
namespace Go.Proofs.YtobnlcmamnoefaaDoor
open Go.RowKit Go.Shelf
/-- The places of a slice of int64 hold these numbers. -/
def At64 (W : World) (a : Option Addr) (xs : List Int) : Prop := ∀ j, j < xs.length → ∃ b off, a = some ⟨b, off, none⟩ ∧ b < W.heap.size ∧ W.cell? ⟨b, off + j, none⟩ = some (.int .i64 (xs.getD j 0))
theorem At64.below {W X : World} {a : Option Addr} {xs : List Int} (h : At64 W a xs) {B : Nat} (hB : Below B W X) (hb : ∀ b off sp, a = some ⟨b, off, sp⟩ → b < B) (hs : W.heap.size ≤ X.heap.size) : At64 X a xs := fun j hj => by
  obtain ⟨b, off, e, h1, h2⟩ := h j hj
  exact ⟨b, off, e, by omega, (hB.cell (p := ⟨b, off + j, none⟩) (hb b off none e)).trans h2⟩
theorem list_ext_getD {xs ys : List Int} (hl : xs.length = ys.length) (h : ∀ j, j < xs.length → xs.getD j 0 = ys.getD j 0) : xs = ys := by
  apply List.ext_getElem hl
  intro i h1 h2
  have := h i h1
  simpa [List.getD, h1, h2] using this
set_option maxHeartbeats 1000000 in
theorem rsame_any (a c : Option Addr) (n m k l : Nat) (xs ys : List Int) (w : World) (hn : n = xs.length) (hm : m = ys.length) (hl : n ≤ 1000000) (h1 : At64 w a xs) (h2 : At64 w c ys) :
    Calls Tryd.prog 23 #[.slice a n k, .slice c m l] w fun e w' => e = .returned (.bool (decide (xs = ys))) ∧ Below w.heap.size w w' := by
  by_cases hnm : n = m
  · subst hnm
    have H1 := Lib.hid h1
    have H2 := Lib.hid h2
    have HN := Lib.hid hn
    have HM := Lib.hid hm
    have hli : (n : Int) ≤ 1000000 := by omega
    clear h1 h2 hn hm hl
    go_enter Tryd.func23, Tryd.ntmps23
    go_wp2
    go_loopw [5] (fun i wr => ∃ k : Nat, k ≤ n ∧ i = .int .i64 k ∧ (∀ j, j < k → xs.getD j 0 = ys.getD j 0) ∧ (∀ p, wr.cell? p = w.cell? p) ∧ Below w.heap.size w wr) (fun i _ => (n - intOf i).toNat)
    case atStart => exact ⟨0, Nat.zero_le _, rfl, fun j hj => absurd hj (Nat.not_lt_zero _), fun _ => rfl, Below.refl _ _⟩
    case round =>
      obtain ⟨k', hk, rfl, hd, hcl, hbw⟩ := hrel
      have HD := Lib.hid hd
      have HCL := Lib.hid hcl
      have HBW := Lib.hid hbw
      clear hd hcl hbw
      by_cases hlt : k' < n
      · have hki : (k' : Int) < n := by omega
        obtain ⟨b1, o1, rfl, _, e1⟩ := H1.out k' (by rw [← HN.out]; exact hlt)
        obtain ⟨b2, o2, rfl, _, e2⟩ := H2.out k' (by rw [← HM.out]; exact hlt)
        obtain ⟨x, hx⟩ : ∃ x, x = xs.getD k' 0 := ⟨_, rfl⟩
        obtain ⟨y, hy⟩ : ∃ y, y = ys.getD k' 0 := ⟨_, rfl⟩
        rw [← hx] at e1
        rw [← hy] at e2
        have HX := Lib.hid hx
        have HY := Lib.hid hy
        have d1 : wr.cell? ⟨b1, o1 + k', none⟩ = some (.int .i64 x) := (HCL.out _).trans e1
        have d2 : wr.cell? ⟨b2, o2 + k', none⟩ = some (.int .i64 y) := (HCL.out _).trans e2
        clear hx hy e1 e2
        by_cases hxy : x = y
        · have g : (x != y) = false := by simp [hxy]
          have HXY := Lib.hid hxy
          clear hxy
          go_wp2_with fail
          go_quiet (fail)
          go_wp2
          go_roundw
          case rel => exact ⟨k' + 1, by omega, by simp, fun j hj => by
              by_cases hjk : j = k'
              · subst hjk; rw [← HX.out, ← HY.out]; exact HXY.out
              · exact HD.out j (by omega), HCL.out, below_drewN HBW.out _⟩
          case measure => simp [intOf]; omega
        · have g : (x != y) = true := by simp [hxy]
          have HXY := Lib.hid hxy
          clear hxy
          go_wp2_with fail
          go_quiet (fail)
          go_wp2
          go_ret
          rw [decide_eq_false (fun e => HXY.out (by rw [HX.out, HY.out, e]))]
          exact ⟨rfl, below_drewN HBW.out _⟩
      · obtain rfl : k' = n := by omega
        go_wp2
        go_ret
        rw [decide_eq_true (list_ext_getD (by rw [← HN.out, ← HM.out]) (fun j hj => HD.out j (by rw [HN.out]; exact hj)))]
        exact ⟨rfl, HBW.out⟩
  · have hne : ¬ xs = ys := fun e => hnm (by rw [hn, hm, e])
    have g : ((n : Int) != (m : Int)) = true := by simp; omega
    clear hn hm h1 h2
    go_enter Tryd.func23, Tryd.ntmps23
    go_wp2
    go_ret
    rw [decide_eq_false hne]
    exact ⟨rfl, Below.refl _ _⟩
end Go.Proofs.YtobnlcmamnoefaaDoor
