/- The contract of the document's Signed: a number of int64 as a sign and bits. -/
import Derived.Test.YtmkmpkajcjdfaaaPlus
import Derived.Deep.RegionWith
set_option linter.unusedVariables false
namespace Go.Proofs.Ytmkmpkajcjdfaaa
open Go.RowKit
set_option maxRecDepth 10000 in
set_option maxHeartbeats 1000000 in
theorem signed_pos (n : Nat) (h : n ≤ 9223372036854775807) (w : World) :
    Calls Try.prog 20 #[.int .i64 n] w fun e w' => e = .returned (.agg (nb false n)) ∧ Below w.heap.size w w' := by
  have hz := (zero_of_info info42).1
  go_enter Try.func20, Try.ntmps20
  go_wp2_with fail
  refine (of_any n _ (by omega)).mono ?_
  rintro e w1 ⟨rfl, hB⟩
  have hr : At w1 w.heap.size (num false (fun _ => 0)) := (At.new w zeroNum).below (by simp) hB
  have HR := Lib.hid hr
  clear hr
  have hB2 : Below w.heap.size w w1 := ((Below.refl _ w).alloc (Nat.le_refl _) _).trans (hB.mono (by simp))
  go_wp2_with (refine store_num HR.out rfl rfl rfl rfl ?_)
  exact bodyPost_ret (v := .agg (nb false n)) (results_cell_row rfl _ _ w.heap.size _ _ _ _ rfl HR.out.row Try.underlying42 rfl (size42 _ _)) rfl ⟨rfl, below_row hB2 (Nat.le_refl _) _⟩
theorem of_one (w : World) : Calls Try.prog 28 #[.int .u64 1] w fun e w' => e = .returned (.agg (nb false 1)) ∧ Below w.heap.size w w' := of_any 1 w (by omega)
set_option maxRecDepth 10000 in
set_option maxHeartbeats 1000000 in
theorem signed_neg (n : Int) (m : Nat) (h : m ≤ 9223372036854775807) (hn : -(n + 1) = (m : Int)) (w : World) :
    Calls Try.prog 20 #[.int .i64 n] w fun e w' => e = .returned (.agg (nb true (m + 1))) ∧ Below w.heap.size w w' := by
  have hz := (zero_of_info info42).1
  have hn0 : n < 0 := by omega
  have hn1 : -9223372036854775808 ≤ n := by omega
  have HN := Lib.hid hn
  clear hn
  go_enter Try.func20, Try.ntmps20
  go_wp2_with fail
  rw [HN.out]
  refine (of_any m _ (by omega)).mono ?_
  rintro e w1 ⟨rfl, hB⟩
  have hr : At w1 w.heap.size (num false (fun _ => 0)) := (At.new w zeroNum).below (by simp) hB
  have hB2 : Below w.heap.size w w1 := ((Below.refl _ w).alloc (Nat.le_refl _) _).trans (hB.mono (by simp))
  have hlt : w.heap.size < w1.heap.size := hr.lt
  have hx : At (w1.alloc (.cells zeroNum 42)) w1.heap.size (num false (fun _ => 0)) := At.new w1 zeroNum
  have HR := Lib.hid hr
  have HX := Lib.hid hx
  clear hr hx hB
  go_wp2_with (refine store_num HX.out rfl rfl rfl rfl ?_)
  have hx2 := HX.out.row (cs' := num false (bitf m))
  have hr2 := (HR.out.alloc (.cells zeroNum 42)).rowOther (num false (bitf m)) (g := w1.heap.size) (by omega)
  have hB3 := below_row (hB2.alloc (by omega) (.cells zeroNum 42)) (g := w1.heap.size) (by omega) (num false (bitf m))
  generalize w1.heap.size = bx at *
  clear HR HX
  generalize World.setRow _ bx _ = w2 at *
  simp only [Act.put]
  refine wp_region_any (by kernel_rfl) ?_
  change wpAny _ _ _ _ _ _ _ (World.drew _)
  refine wpAny_ready (rs := [0, 1]) (by kernel_rfl) (by simp) ?_
  refine AllReady.cons rfl (fun K hK => ?_) (AllReady.cons rfl (fun K hK => ?_) AllReady.nil)
  · refine step_load_num (w := w2.drew) (g := bx) hx2 rfl rfl rfl ?_
    refine hK _ _ ?_
    clear hK K
    refine wpAny_ready (rs := [1]) (by kernel_rfl) (by simp) (AllReady.cons rfl (fun K hK => ?_) AllReady.nil)
    go_simp
    refine (of_one w2.drew).mono ?_
    rintro e w3 ⟨rfl, hB4⟩
    refine hK _ _ ?_
    clear hK K
    have hx3 : At w3 bx (num false (bitf m)) := hx2.below (W := w2.drew) hx2.lt hB4
    have hr3 : At w3 w.heap.size (num false (fun _ => 0)) := hr2.below (W := w2.drew) hr2.lt hB4
    have hB6 : Below w.heap.size w w3 := hB3.drew.trans (hB4.mono hB3.size)
    clear hx2 hr2 hB3 hB4
    refine wpAny_ready (rs := [2]) (by kernel_rfl) (by simp) (AllReady.cons rfl (fun K hK => ?_) AllReady.nil)
    go_simp
    refine (plus_any false false m 1 (by omega) w3).mono ?_
    rintro e w4 ⟨rfl, hB5⟩
    refine hK _ _ ?_
    clear hK K
    have hx4 : At w4 bx (num false (bitf m)) := hx3.below hx3.lt hB5
    refine wpAny_ready (rs := [3]) (by kernel_rfl) (by simp) (AllReady.cons rfl (fun K hK => ?_) AllReady.nil)
    refine step_store_num (w := w4) (g := bx) (neg := false) (f := bitf (m + 1)) hx4 rfl rfl rfl rfl ?_
    refine hK _ _ ?_
    clear hK K
    refine wpAny_done (by kernel_rfl) ?_ _
    have hx5 := hx4.row (cs' := num false (bitf (m + 1)))
    have hr5 := (hr3.below hr3.lt hB5).rowOther (num false (bitf (m + 1))) (g := bx) (by omega)
    have hB7 := below_row (hB6.trans (hB5.mono hB6.size)) (g := bx) (by omega) (num false (bitf (m + 1)))
    clear hx4 hx3 hr3 hB5 hB6
    generalize World.setRow w4 bx _ = w5 at *
    have c0 := hx5.neg
    have f0 := hx5.free 0
    have HX6 := Lib.hid (hx5.setNeg true)
    have HR6 := Lib.hid (hr5.other (.bool true) (a := ⟨bx, 0, none⟩) (by dsimp only; omega))
    clear hx5 hr5
    go_wp2_with (first | (refine load_num HX6.out rfl rfl rfl ?_) | (refine store_num HR6.out rfl rfl rfl rfl ?_))
    exact bodyPost_ret (v := .agg (nb true (m + 1))) (results_cell_row rfl _ _ w.heap.size _ _ _ _ rfl HR6.out.row Try.underlying42 rfl (size42 _ _)) rfl ⟨rfl, below_row (hB7.setCell (p := ⟨bx, 0, none⟩) (by dsimp only; omega) _) (Nat.le_refl _) _⟩
  · go_simp
    refine (of_one w2.drew).mono ?_
    rintro e w3 ⟨rfl, hB4⟩
    refine hK _ _ ?_
    clear hK K
    have hx3 : At w3 bx (num false (bitf m)) := hx2.below (W := w2.drew) hx2.lt hB4
    have hr3 : At w3 w.heap.size (num false (fun _ => 0)) := hr2.below (W := w2.drew) hr2.lt hB4
    have hB6 : Below w.heap.size w w3 := hB3.drew.trans (hB4.mono hB3.size)
    clear hx2 hr2 hB3 hB4
    refine wpAny_ready (rs := [0]) (by kernel_rfl) (by simp) (AllReady.cons rfl (fun K hK => ?_) AllReady.nil)
    refine step_load_num (w := w3) (g := bx) hx3 rfl rfl rfl ?_
    refine hK _ _ ?_
    clear hK K
    refine wpAny_ready (rs := [2]) (by kernel_rfl) (by simp) (AllReady.cons rfl (fun K hK => ?_) AllReady.nil)
    go_simp
    refine (plus_any false false m 1 (by omega) w3).mono ?_
    rintro e w4 ⟨rfl, hB5⟩
    refine hK _ _ ?_
    clear hK K
    have hx4 : At w4 bx (num false (bitf m)) := hx3.below hx3.lt hB5
    refine wpAny_ready (rs := [3]) (by kernel_rfl) (by simp) (AllReady.cons rfl (fun K hK => ?_) AllReady.nil)
    refine step_store_num (w := w4) (g := bx) (neg := false) (f := bitf (m + 1)) hx4 rfl rfl rfl rfl ?_
    refine hK _ _ ?_
    clear hK K
    refine wpAny_done (by kernel_rfl) ?_ _
    have hx5 := hx4.row (cs' := num false (bitf (m + 1)))
    have hr5 := (hr3.below hr3.lt hB5).rowOther (num false (bitf (m + 1))) (g := bx) (by omega)
    have hB7 := below_row (hB6.trans (hB5.mono hB6.size)) (g := bx) (by omega) (num false (bitf (m + 1)))
    clear hx4 hx3 hr3 hB5 hB6
    generalize World.setRow w4 bx _ = w5 at *
    have c0 := hx5.neg
    have f0 := hx5.free 0
    have HX6 := Lib.hid (hx5.setNeg true)
    have HR6 := Lib.hid (hr5.other (.bool true) (a := ⟨bx, 0, none⟩) (by dsimp only; omega))
    clear hx5 hr5
    go_wp2_with (first | (refine load_num HX6.out rfl rfl rfl ?_) | (refine store_num HR6.out rfl rfl rfl rfl ?_))
    exact bodyPost_ret (v := .agg (nb true (m + 1))) (results_cell_row rfl _ _ w.heap.size _ _ _ _ rfl HR6.out.row Try.underlying42 rfl (size42 _ _)) rfl ⟨rfl, below_row (hB7.setCell (p := ⟨bx, 0, none⟩) (by dsimp only; omega) _) (Nat.le_refl _) _⟩
/-- Any number of int64. -/
theorem signed_any (n : Int) (h1 : -9223372036854775808 ≤ n) (h2 : n ≤ 9223372036854775807) (w : World) :
    Calls Try.prog 20 #[.int .i64 n] w fun e w' => e = .returned (.agg (nb (decide (n < 0)) n.natAbs)) ∧ Below w.heap.size w w' := by
  rcases Int.lt_or_le n 0 with h | h
  · have k := signed_neg n (n.natAbs - 1) (by omega) (by omega) w
    rw [show n.natAbs - 1 + 1 = n.natAbs by omega] at k
    rw [decide_eq_true h]
    exact k
  · have k := signed_pos n.natAbs (by omega) w
    rw [show ((n.natAbs : Nat) : Int) = n by omega] at k
    rw [decide_eq_false (by omega)]
    exact k
end Go.Proofs.Ytmkmpkajcjdfaaa
