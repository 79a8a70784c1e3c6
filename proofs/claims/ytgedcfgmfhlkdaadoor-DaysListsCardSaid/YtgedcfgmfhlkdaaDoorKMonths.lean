/- The iterator monthsOf: the months of a year, each with the days ahead of it. -/
import Derived.RangeFuncNested
import Derived.RangeFuncBound
import Derived.RangeFuncCalls
import Derived.RangeFuncLeaves
import Derived.RangeFuncBox
import Derived.Shelf.Abstract
import Derived.Shelf.RegionOpen
import Derived.WalkKit
import Derived.OwnWalkIn
import Derived.TacticsInMore
import Derived.LoopNIn
import Derived.LoopIn
import Derived.Test.YtgedcfgmfhlkdaaDoorKYear
set_option linter.unusedVariables false
namespace Go.Proofs.YtgedcfgmfhlkdaaDoor
open Go.RowKit Go.Shelf
attribute [local go_sem] Oper.semAt_some
abbrev Mon := { x : Int // 1 ≤ x ∧ x ≤ 12 }
def mon (j : Nat) : Mon := if h : j < 12 then ⟨j + 1, by omega⟩ else ⟨1, by omega⟩
theorem mon_val {j : Nat} (h : j < 12) : (mon j).1 = j + 1 := by unfold mon; rw [dif_pos h]
theorem mon_all (x : Mon) : ∃ j, j < 12 ∧ mon j = x := ⟨(x.1 - 1).toNat, by have := x.2; omega, Subtype.ext (by rw [mon_val (by have := x.2; omega)]; have := x.2; omega)⟩
def upto {α : Type} (f : Nat → α) (k : Nat) : List α := (List.range k).map f
theorem upto_succ {α : Type} (f : Nat → α) (k : Nat) : upto f (k + 1) = upto f k ++ [f k] := by simp [upto, List.range_succ]
theorem upto_length {α : Type} (f : Nat → α) (k : Nat) : (upto f k).length = k := by simp [upto]
/-- What a round keeps: one block, and whatever lies below n₀. -/
structure KM (By n₀ : Nat) (W W' : World) : Prop where
  keep : W'.heap[By]? = W.heap[By]?
  below : Below n₀ W W'
theorem KM.refl (By n₀ : Nat) (W : World) : KM By n₀ W W := ⟨rfl, Below.refl _ _⟩
theorem KM.trans {By n₀ : Nat} {X Y Z : World} (h : KM By n₀ X Y) (k : KM By n₀ Y Z) : KM By n₀ X Z := ⟨k.keep.trans h.keep, h.below.trans k.below⟩
theorem KM.of {By n₀ : Nat} {X Y : World} (h : Below n₀ X Y) (hB : By < n₀) : KM By n₀ X Y := ⟨h.block By hB, h⟩
theorem KM.cell {By n₀ : Nat} {X Y : World} (h : KM By n₀ X Y) {v : Value} (hc : X.cell? ⟨By, 0, none⟩ = some v) : Y.cell? ⟨By, 0, none⟩ = some v := by
  unfold World.cell? at hc ⊢
  simp only at hc ⊢
  rw [h.keep]; exact hc
theorem kmB {By n₀ : Nat} {w : World} (hn : n₀ ≤ w.heap.size) (hB : By < w.heap.size) (W : World) (l : Nat) (o o' : Obj) (hl : w.heap.size ≤ l) (h : W.heap[l]? = some o) (h1 : o.isCells = false) (h2 : o.isWalk = false) : KM By n₀ W (W.putObj l o') :=
  ⟨World.putObj_heap_other (by omega), belowK_b hn W l o o' hl h h1 h2⟩
def encM (y : Int) (x : Mon) : Array Value := #[.int .i64 x.1, .int .i64 (bef y x.1)]
set_option maxRecDepth 100000 in
set_option maxHeartbeats 2000000 in
theorem months1_in (F : Fence) (n : Nat) (hF : ∀ f, F.fn f) (hro : F.round = none) (hd : F = Fence.wide) (hn : 1 ≤ n) (l By n₀ : Nat) (y : Int) (h0n : 0 < n₀) (J Jx : List Mon → World → Prop)
    (hY : ∀ pre x W, J pre W → pre.length < 12 → YieldAt F (n - 1) Tryd.prog l #[.int .i64 x.1, .int .i64 (bef y x.1)] W fun e W' =>
      (e = .returned (.bool true) ∧ J (pre ++ [x]) W' ∧ KM By n₀ W W') ∨ (e = .returned (.bool false) ∧ Jx (pre ++ [x]) W'))
    (W : World) (hBy : W.cell? ⟨By, 0, none⟩ = some (.int .i64 y)) (hT : Tabs W) (h0 : J [] W) :
    CallsIn F n Tryd.prog 67 #[.func (.yield l) #[] #[], .pointer (some ⟨By, 0, none⟩)] W fun e W' => (∃ v, e = .returned v) ∧
      ((∃ ys, ys = upto mon 12 ∧ J ys W') ∨ (∃ pre, (∃ k, k ≤ 12 ∧ pre = upto mon k) ∧ Jx pre W')) := by
  subst hd
  refine callsIn_of_wp Tryd.func67 rfl (hF _) ?_ hro
  simp only [Tryd.ntmps67, List.size_toArray, List.length_cons, List.length_nil, Nat.reduceAdd, Nat.reduceSub, Array.replicate_succ, Array.replicate_zero, List.push_toArray, List.append_toArray, List.nil_append, List.cons_append]
  gi_wp2
  gi_loopw [3, 4] (fun b i wr => ∃ k : Nat, k ≤ 12 ∧ i = .int .i64 (k + 1) ∧ b = .int .i64 (bef y (k + 1)) ∧ J (upto mon k) wr ∧ KM By n₀ W wr)
    (fun _ i _ => 13 - (intOf i).toNat)
  case atStart => exact ⟨0, Nat.zero_le _, rfl, by rw [Int.natCast_zero, Int.zero_add, bef_one], h0, KM.refl _ _ _⟩
  case round =>
    obtain ⟨k, hk, rfl, rfl, hJs, hnx⟩ := hrel
    by_cases hlt : k < 12
    · obtain ⟨fn, tmps, assign, body, hy, hR⟩ := hY _ (mon k) wr hJs (by rw [upto_length]; exact hlt)
      rw [mon_val hlt] at hy
      have hs := bef_succ (y := y) (m := k + 1) (by omega) (by omega)
      have hb1 := bef_bounds (y := y) (m := k + 1) (by omega) (by omega)
      have hb2 := bef_bounds (y := y) (m := k + 1 + 1) (by omega) (by omega)
      obtain ⟨b, hb⟩ : ∃ b, b = bef y (k + 1) := ⟨_, rfl⟩
      obtain ⟨b2, hb2e⟩ : ∃ b, b = bef y (k + 1 + 1) := ⟨_, rfl⟩
      obtain ⟨dl, hdl⟩ : ∃ b, b = dlen y (k + 1) := ⟨_, rfl⟩
      rw [← hb, ← hb2e, ← hdl] at hs
      rw [← hb] at hb1 hy ⊢
      rw [← hb2e] at hb2
      have HB2 := Lib.hid hb2e
      have HDL := Lib.hid hdl
      have HR := Lib.hid hR
      have HS := Lib.hid hs
      have HNX := Lib.hid hnx
      have HJ := Lib.hid hJs
      have hk9 : (k : Int) ≤ 11 := by omega
      clear hb2e hdl hb hR hs hnx hJs
      gi_wp2
      refine HR.out.mono ?_
      rintro e W3 (⟨rfl, hJ3, hk3⟩ | ⟨rfl, hJx3⟩)
      · have hW3 := HNX.out.trans hk3
        have hc := hW3.cell hBy
        have hda := days_any y (k + 1) W3 (hT.below h0n hW3.below)
        rw [← HDL.out] at hda
        have HDA := Lib.hid hda
        have HW3 := Lib.hid hW3
        have HJ3 := Lib.hid hJ3
        clear hda hW3 hk3 hJ3
        gi_wp2_with (gi_at_call 65; refine (callsIn_wide.2 HDA.out).mono ?_; rintro e w' ⟨rfl, rfl⟩)
        go_roundw
        case rel =>
          have hs := HS.out
          refine ⟨k + 1, by omega, by go_num, ?_, by rw [upto_succ]; exact HJ3.out, HW3.out⟩
          rw [← hs, show wrap64 b2 = b2 from by simp only [wrap64]; omega, HB2.out]
          simp
        case measure => simp [intOf]; omega
      · gi_wp2
        refine bodyPost_ret (results_none rfl _ _ _) rfl ?_
        exact ⟨⟨_, rfl⟩, .inr ⟨_, ⟨k + 1, by omega, (upto_succ _ _).symm⟩, hJx3⟩⟩
    · obtain rfl : k = 12 := by omega
      gi_wp2
      go_end0
      exact ⟨⟨_, rfl⟩, .inl ⟨_, rfl, hJs⟩⟩
theorem monthsOf_in (n : Nat) (y : Int) (w : World) :
    CallsIn Fence.wide n Tryd.prog 51 #[.int .i64 y] w fun e w' => e = .returned (.func (.func 67) #[] #[.pointer (some ⟨w.heap.size, 0, none⟩)]) ∧ w' = w.alloc (.cells #[.int .i64 y] 3) := by
  refine callsIn_of_wp Tryd.func51 rfl trivial ?_ rfl
  simp only [Tryd.ntmps51, List.size_toArray, List.length_cons, List.length_nil, Nat.reduceAdd, Nat.reduceSub, Array.replicate_succ, Array.replicate_zero, List.push_toArray, List.append_toArray, List.nil_append, List.cons_append]
  gi_wp2
  go_ret
  exact ⟨rfl, rfl⟩
theorem months_stopsK (n : Nat) (hn : 1 ≤ n) (By n₀ : Nat) (y : Int) (w0 : World) (h0n : 0 < n₀) (hb : n₀ ≤ w0.heap.size) (hBl : By < w0.heap.size) (hBy : w0.cell? ⟨By, 0, none⟩ = some (.int .i64 y)) (hT : Tabs w0) :
    SeqStopsK Fence.wide n Tryd.prog 67 #[.pointer (some ⟨By, 0, none⟩)] (encM y) (KM By n₀) (fun xs => xs = upto mon 12) (fun pre => ∃ k, k ≤ 12 ∧ pre = upto mon k) 12 w0 := by
  intro l J Jx W hW hJ hJx hY h0
  exact months1_in Fence.wide n (fun _ => trivial) rfl rfl hn l By n₀ y h0n J Jx hY W ((hW.cell (p := ⟨By, 0, none⟩) hBl).trans hBy) (hT.next hW) h0
theorem months_stops (n : Nat) (hn : 1 ≤ n) (By n₀ : Nat) (y : Int) (w0 : World) (hB : By < n₀) (h0n : 0 < n₀) (hb : n₀ ≤ w0.heap.size) (hBy : w0.cell? ⟨By, 0, none⟩ = some (.int .i64 y)) (hT : Tabs w0) :
    SeqStopsK Fence.wide n Tryd.prog 67 #[.pointer (some ⟨By, 0, none⟩)] (encM y) (Below n₀) (fun xs => xs = upto mon 12) (fun pre => ∃ k, k ≤ 12 ∧ pre = upto mon k) 12 w0 := by
  intro l J Jx W hW hJ hJx hY h0
  refine months_stopsK n hn By n₀ y w0 h0n hb (by omega) hBy hT l J Jx W hW hJ hJx (fun pre x W1 h1 h2 => ?_) h0
  obtain ⟨fn, tmps, assign, body, hy, hR⟩ := hY pre x W1 h1 h2
  refine ⟨fn, tmps, assign, body, hy, hR.mono ?_⟩
  rintro e W' (⟨h3, h4, h5⟩ | h)
  · exact .inl ⟨h3, h4, KM.of h5 hB⟩
  · exact .inr h
end Go.Proofs.YtgedcfgmfhlkdaaDoor
