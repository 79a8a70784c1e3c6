/- The iterator of a key's pads: the inner one, then the outer one, at which whoever ranges leaves. -/
import Derived.Test.YtkhhejkemkldgaaDoorMBlk
import Derived.Test.YtkhhejkemkldgaaDoorMMath
import Derived.Test.YtkhhejkemkldgaaDoorSIter
set_option linter.unusedVariables false
set_option linter.unusedSimpArgs false
namespace Go.Proofs.YtkhhejkemkldgaaDoor
open Go.RowKit Go.Shelf
attribute [local go_sem] Oper.semAt_some
def padEl (ks : List Int) (k : Nat) : Array Value := if k = 0 then #[.int .u8 54, .agg (nums .u8 64 (bf (pad 54 ks)))] else #[.int .u8 92, .agg (nums .u8 64 (bf (pad 92 ks)))]
theorem idx_mask0 (w : World) : (Instr.index 82 (.agg #[.int .u8 54, .int .u8 92]) (.int .i64 0)).run Tryd.prog w = .ok (.int .u8 54) w :=
  idx_nums _ 5 .u8 2 (fun j => if j = 0 then 54 else 92) 0 (by decide) Tryd.underlying82 (by kernel_rfl) (by kernel_rfl) (by kernel_rfl) w
theorem idx_mask1 (w : World) : (Instr.index 82 (.agg #[.int .u8 54, .int .u8 92]) (.int .i64 1)).run Tryd.prog w = .ok (.int .u8 92) w :=
  idx_nums _ 5 .u8 2 (fun j => if j = 0 then 54 else 92) 1 (by decide) Tryd.underlying82 (by kernel_rfl) (by kernel_rfl) (by kernel_rfl) w
set_option maxRecDepth 100000 in
set_option maxHeartbeats 2000000 in
theorem pads1_in (n : Nat) (hn : 1 ≤ n) (l S Bk n₀ : Nat) (ks : List Int) (hks : Bytes ks) (J : Nat → World → Prop) (Jx : World → Prop) (W : World) (hJ : ∀ k, Stays n₀ (J k)) (hn₀ : n₀ ≤ W.heap.size) (hSlt : S < n₀) (hBlt : Bk < n₀) (hne : Bk ≠ S)
    (hY1 : ∀ W1, J 0 W1 → YieldAt Fence.wide (n - 1) Tryd.prog l (padEl ks 0) W1 fun e W' => e = .returned (.bool true) ∧ J 1 W' ∧ KeepsC S W1 W')
    (hY2 : ∀ W1, J 1 W1 → YieldAt Fence.wide (n - 1) Tryd.prog l (padEl ks 1) W1 fun e W' => e = .returned (.bool false) ∧ Jx W')
    (hB : At 76 W Bk (nums .u8 64 (bf (keyB ks)))) (h0 : J 0 W) :
    CallsIn Fence.wide n Tryd.prog 47 #[.func (.yield l) #[] #[], .pointer (some ⟨Bk, 0, none⟩)] W fun e W' => (∃ v, e = .returned v) ∧ Jx W' := by
  have hz := (zero_of_info zero_mblk).1
  have hkb := keyB_bytes hks
  have hi0 := idx_mask0
  have hi1 := idx_mask1
  have HKB := Lib.hid hkb
  have HBK := Lib.hid hB
  have HJ := Lib.hid hJ
  have Y1 := Lib.hid hY1
  have Y2 := Lib.hid hY2
  have HK0 := Lib.hid (KeepsC.refl S W)
  clear hkb hB hJ hY1 hY2 hks
  refine callsIn_of_wp Tryd.func47 rfl trivial ?_ rfl
  simp only [Tryd.ntmps47, List.size_toArray, List.length_cons, List.length_nil, Nat.reduceAdd, Nat.reduceSub, Array.replicate_succ, Array.replicate_zero, List.push_toArray, List.append_toArray, List.nil_append, List.cons_append]
  gi_wp2
  gi_loopw [8] (fun cv wr => ∃ k : Nat, k ≤ 1 ∧ cv = .int .i64 k ∧ J k wr ∧ KeepsC S W wr) (fun cv _ => 2 - (intOf cv).toNat)
  case atStart => exact ⟨0, by omega, rfl, h0, HK0.out⟩
  case round =>
    clear h0 HK0
    obtain ⟨k, hk, rfl, hJk, hKk⟩ := hrel
    have hA := hKk.at_ HBK.out hne
    have hwr : W.heap.size ≤ wr.heap.size := hKk.size
    have HA := Lib.hid hA
    have HP := Lib.hid (At.new 76 wr (nums .u8 64 fun _ => 0))
    have HA1 := Lib.hid (hA.alloc (.cells (nums .u8 64 fun _ => 0) 76))
    have hJ1 := HJ.out k _ _ none hJk (World.grownBy_alloc wr (.cells (nums .u8 64 fun _ => 0) 76) none) (fun r e => by cases e)
    have hJ2 : J k ((wr.alloc (.cells (nums .u8 64 fun _ => 0) 76)).setRow wr.heap.size (nums .u8 64 (bf (keyB ks)))) := by
      refine HJ.out k _ _ (some wr.heap.size) hJ1 (grown_setRow _ _ _) (fun r e => ?_)
      obtain rfl : wr.heap.size = r := by injection e
      exact ⟨by omega, _, HP.out, rfl⟩
    have hK2 : KeepsC S W ((wr.alloc (.cells (nums .u8 64 fun _ => 0) 76)).setRow wr.heap.size (nums .u8 64 (bf (keyB ks)))) :=
      (hKk.trans (KeepsC.grownNone (World.grownBy_alloc wr _ none))).own (grown_setRow _ _ _) hwr
    have HJ2 := Lib.hid hJ2
    have HK2 := Lib.hid hK2
    have HP2 := Lib.hid (show At 76 ((wr.alloc (.cells (nums .u8 64 fun _ => 0) 76)).setRow wr.heap.size (nums .u8 64 (bf (keyB ks)))) wr.heap.size (nums .u8 64 (bf (keyB ks))) from HP.out.row)
    have hPn : n₀ ≤ wr.heap.size := by omega
    clear hA hJ1 hJ2 hK2 hJk hKk
    rcases (by omega : k = 0 ∨ k = 1) with rfl | rfl
    · gi_wp2_with (first | (refine load_mblk_in (fun _ => trivial) HA.out rfl rfl rfl ?_) | (refine load_mblk_in (fun _ => trivial) HA1.out rfl rfl rfl ?_) | (refine store_mblk_in (fun _ => trivial) HP.out rfl rfl rfl rfl ?_))
      obtain ⟨P, hP⟩ : ∃ P, wr.heap.size = P := ⟨_, rfl⟩
      obtain ⟨w2, hw2⟩ : ∃ w2, (wr.alloc (.cells (nums .u8 64 fun _ => 0) 76)).setRow wr.heap.size (nums .u8 64 (bf (keyB ks))) = w2 := ⟨_, rfl⟩
      rw [hw2] at HJ2 HK2 HP2
      rw [hP] at hPn hwr HP2
      rw [hw2, hP]
      clear HP HA HA1 hw2 hP
      gi_loopw [12] (fun iv wx => ∃ i : Nat, i ≤ 64 ∧ iv = .int .i64 i ∧ J 0 wx ∧ At 76 wx P (nums .u8 64 (half 54 (keyB ks) i)) ∧ KeepsC S W wx) (fun iv _ => 64 - (intOf iv).toNat)
      case atStart => exact ⟨0, by omega, rfl, HJ2.out, by rw [half_none]; exact HP2.out, HK2.out⟩
      case round =>
        clear HJ2 HK2 HP2
        obtain ⟨i, hi, rfl, hJx, hAx, hKx⟩ := hrel
        by_cases hlt : i < 64
        · have cx := hAx.num i hlt
          have fx := hAx.free i
          have hx := HKB.out.get i
          rw [half_at] at cx
          have hxs : bits .xor .u8 ((keyB ks).getD i 0) 54 = ((((keyB ks).getD i 0).toNat ^^^ 54 : Nat) : Int) := xor_says hx.1 hx.2 (show 54 < 256 by decide)
          have hil : (i : Int) < 64 := by omega
          have HS := Lib.hid (half_step 54 (keyB ks) i)
          have HAX := Lib.hid hAx
          have HJX := Lib.hid hJx
          have HKX := Lib.hid hKx
          obtain ⟨x, hxx⟩ : ∃ x, (keyB ks).getD i 0 = x := ⟨_, rfl⟩
          obtain ⟨y, hyy⟩ : ∃ y, ((((keyB ks).getD i 0).toNat ^^^ 54 : Nat) : Int) = y := ⟨_, rfl⟩
          rw [hyy] at hxs HS
          rw [hxx] at hxs cx hx
          obtain ⟨hx0, hx1⟩ := hx
          clear hAx hJx hKx hxx hyy
          gi_wp2

          have hA2 := HAX.out.put i y hlt
          rw [HS.out] at hA2
          refine ⟨⟨i + 1, by omega, by go_num, ?_, hA2, HKX.out.own (grown_setCell wr P i _) hwr⟩, by simp [intOf]; omega⟩
          refine HJ.out 0 _ _ (some P) HJX.out (grown_setCell wr P i _) (fun r e => ?_)
          obtain rfl : P = r := by injection e
          exact ⟨hPn, _, HAX.out, rfl⟩
        · obtain rfl : i = 64 := by omega
          have HA4 := Lib.hid (hAx.like (half_all 54 ks))
          have HKX := Lib.hid hKx
          obtain ⟨fn, tmps, assign, body, hy, hR⟩ := Y1.out wr hJx
          unfold padEl at hy
          rw [if_pos rfl] at hy
          have HR := Lib.hid hR
          clear hR hJx hAx hKx hlt hi
          gi_wp2_with (refine load_mblk_in (fun _ => trivial) HA4.out rfl rfl rfl ?_)
          refine HR.out.mono ?_
          rintro e W3 ⟨rfl, hJ5, hK5⟩
          have HJ5 := Lib.hid hJ5
          have HK5 := Lib.hid (HKX.out.trans hK5)
          clear hJ5 hK5
          gi_wp2
          exact ⟨⟨1, by omega, by go_num, HJ5.out, HK5.out⟩, by simp [intOf]⟩
    · gi_wp2_with (first | (refine load_mblk_in (fun _ => trivial) HA.out rfl rfl rfl ?_) | (refine load_mblk_in (fun _ => trivial) HA1.out rfl rfl rfl ?_) | (refine store_mblk_in (fun _ => trivial) HP.out rfl rfl rfl rfl ?_))
      obtain ⟨P, hP⟩ : ∃ P, wr.heap.size = P := ⟨_, rfl⟩
      obtain ⟨w2, hw2⟩ : ∃ w2, (wr.alloc (.cells (nums .u8 64 fun _ => 0) 76)).setRow wr.heap.size (nums .u8 64 (bf (keyB ks))) = w2 := ⟨_, rfl⟩
      rw [hw2] at HJ2 HK2 HP2
      rw [hP] at hPn hwr HP2
      rw [hw2, hP]
      clear HP HA HA1 hw2 hP
      gi_loopw [12] (fun iv wx => ∃ i : Nat, i ≤ 64 ∧ iv = .int .i64 i ∧ J 1 wx ∧ At 76 wx P (nums .u8 64 (half 92 (keyB ks) i)) ∧ KeepsC S W wx) (fun iv _ => 64 - (intOf iv).toNat)
      case atStart => exact ⟨0, by omega, rfl, HJ2.out, by rw [half_none]; exact HP2.out, HK2.out⟩
      case round =>
        clear HJ2 HK2 HP2
        obtain ⟨i, hi, rfl, hJx, hAx, hKx⟩ := hrel
        by_cases hlt : i < 64
        · have cx := hAx.num i hlt
          have fx := hAx.free i
          have hx := HKB.out.get i
          rw [half_at] at cx
          have hxs : bits .xor .u8 ((keyB ks).getD i 0) 92 = ((((keyB ks).getD i 0).toNat ^^^ 92 : Nat) : Int) := xor_says hx.1 hx.2 (show 92 < 256 by decide)
          have hil : (i : Int) < 64 := by omega
          have HS := Lib.hid (half_step 92 (keyB ks) i)
          have HAX := Lib.hid hAx
          have HJX := Lib.hid hJx
          have HKX := Lib.hid hKx
          obtain ⟨x, hxx⟩ : ∃ x, (keyB ks).getD i 0 = x := ⟨_, rfl⟩
          obtain ⟨y, hyy⟩ : ∃ y, ((((keyB ks).getD i 0).toNat ^^^ 92 : Nat) : Int) = y := ⟨_, rfl⟩
          rw [hyy] at hxs HS
          rw [hxx] at hxs cx hx
          obtain ⟨hx0, hx1⟩ := hx
          clear hAx hJx hKx hxx hyy
          gi_wp2

          have hA2 := HAX.out.put i y hlt
          rw [HS.out] at hA2
          refine ⟨⟨i + 1, by omega, by go_num, ?_, hA2, HKX.out.own (grown_setCell wr P i _) hwr⟩, by simp [intOf]; omega⟩
          refine HJ.out 1 _ _ (some P) HJX.out (grown_setCell wr P i _) (fun r e => ?_)
          obtain rfl : P = r := by injection e
          exact ⟨hPn, _, HAX.out, rfl⟩
        · obtain rfl : i = 64 := by omega
          have HA4 := Lib.hid (hAx.like (half_all 92 ks))
          have HKX := Lib.hid hKx
          obtain ⟨fn, tmps, assign, body, hy, hR⟩ := Y2.out wr hJx
          unfold padEl at hy
          rw [if_neg (by decide)] at hy
          have HR := Lib.hid hR
          clear hR hJx hAx hKx hlt hi
          gi_wp2_with (refine load_mblk_in (fun _ => trivial) HA4.out rfl rfl rfl ?_)
          refine HR.out.mono ?_
          rintro e W3 ⟨rfl, hJ5⟩
          have HJ5 := Lib.hid hJ5
          clear hJ5
          gi_wp2
          refine bodyPost_ret (results_none rfl _ _ _) rfl ?_
          exact ⟨⟨_, rfl⟩, HJ5.out⟩
/-- The iterator, at a world in which its box lies. -/
theorem pads_goes (n : Nat) (hn : 1 ≤ n) (S Bk : Nat) (ks : List Int) (hks : Bytes ks) (w : World) (hSlt : S < w.heap.size) (hne : Bk ≠ S) (hB : At 76 w Bk (nums .u8 64 (bf (keyB ks)))) :
    SeqGoes n Tryd.prog 47 #[.pointer (some ⟨Bk, 0, none⟩)] 1 S (padEl ks) w := by
  intro l J Jx W hW hJ _ hY1 hY2 h0
  exact pads1_in n hn l S Bk w.heap.size ks hks J Jx W hJ hW.size hSlt hB.lt hne (fun W1 h => hY1 0 W1 (by decide) h) hY2 (hB.below hB.lt hW) h0
theorem padsOf_in (n : Nat) (f : Nat → Int) (w : World) :
    CallsIn Fence.wide n Tryd.prog 38 #[.agg (nums .u8 64 f)] w fun e w' => e = .returned (.func (.func 47) #[] #[.pointer (some ⟨w.heap.size, 0, none⟩)]) ∧ w' = w.alloc (.cells (nums .u8 64 f) 76) := by
  refine callsIn_of_wp Tryd.func38 rfl trivial ?_ rfl
  simp only [Tryd.ntmps38, List.size_toArray, List.length_cons, List.length_nil, Nat.reduceAdd, Nat.reduceSub, Array.replicate_succ, Array.replicate_zero, List.push_toArray, List.append_toArray, List.nil_append, List.cons_append]
  gi_wp2
  go_ret
  exact ⟨rfl, rfl⟩
end Go.Proofs.YtkhhejkemkldgaaDoor
