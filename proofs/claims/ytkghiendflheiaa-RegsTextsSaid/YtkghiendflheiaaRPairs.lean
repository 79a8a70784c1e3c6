/- The iterator pairs of package regs: the registers of bytes, two by two, in their order. -/
import Derived.RangeFuncNested
import Derived.RangeFuncBound
import Derived.RangeFuncCalls
import Derived.RangeFuncLeaves
import Derived.RangeFuncBox
import Derived.Shelf.Abstract
import Derived.Shelf.RegionOpen
import Derived.WalkKit
import Derived.OwnWalkIn
import Derived.TacticsInMore
import Derived.LoopNIn
import Derived.LoopIn
import Derived.Laws.BitsLemmas
import Derived.Lib.EndianBits
import Derived.Sort.CutIn
import Derived.IntWalk
import Derived.Test.YtkghiendflheiaaRLeaf
import Derived.Test.YtkghiendflheiaaRStill
set_option linter.unusedVariables false
namespace Go.Proofs.Ytkghiendflheiaa
open Go.RowKit Go.Shelf
attribute [local go_sem] Oper.semAt_some
abbrev U8 := { x : Int // 0 ≤ x ∧ x ≤ 255 }
abbrev U16 := { x : Int // 0 ≤ x ∧ x ≤ 65535 }
def pr (a b : U8) : U16 := ⟨a.1 * 256 + b.1, by have := a.2; have := b.2; omega⟩
def upto {α : Type} (f : Nat → α) (k : Nat) : List α := (List.range k).map f
theorem upto_succ {α : Type} (f : Nat → α) (k : Nat) : upto f (k + 1) = upto f k ++ [f k] := by simp [upto, List.range_succ]
theorem upto_length {α : Type} (f : Nat → α) (k : Nat) : (upto f k).length = k := by simp [upto]
theorem or_u16 (x y : Int) (h0 : 0 ≤ x) (h1 : x ≤ 255) (h2 : 0 ≤ y) (h3 : y ≤ 255) : bits .or .u16 (x * 256) y = x * 256 + y :=
  bits_join .u16 16 (by decide) (fun n a b => by rw [IntKind.wrap_u16]; omega) 8 (x * 256) y (by omega) (by omega) (by omega) h2 (by omega) (by omega)
/-- What a round that goes on keeps: what lay below n₀, and the box of the bytes. -/
def KeepB (n₀ Bs : Nat) (W W' : World) : Prop := Below n₀ W W' ∧ ∀ sv, Boxed W Bs 23 sv → Boxed W' Bs 23 sv
theorem KeepB.refl (n₀ Bs : Nat) (W : World) : KeepB n₀ Bs W W := ⟨Below.refl _ _, fun _ h => h⟩
theorem KeepB.trans {n₀ Bs : Nat} {A B C : World} (h : KeepB n₀ Bs A B) (k : KeepB n₀ Bs B C) : KeepB n₀ Bs A C := ⟨h.1.trans k.1, fun sv x => k.2 sv (h.2 sv x)⟩
theorem KeepB.drew (n₀ Bs : Nat) (W : World) : KeepB n₀ Bs W W.drew := ⟨(Below.refl _ _).drew, fun _ h => h⟩
theorem keepB_b {n₀ Bs : Nat} {w : World} (hn : n₀ ≤ w.heap.size) (W : World) (l : Nat) (o o' : Obj) (hl : w.heap.size ≤ l) (h : W.heap[l]? = some o) (hc : o.isCells = false) (hk : o.isWalk = false) : KeepB n₀ Bs W (W.putObj l o') :=
  ⟨belowK_b hn W l o o' hl h hc hk, fun sv hb => hb.kept (grownBy_putObj' W l o') (fun e => by
    obtain rfl : Bs = l := by simpa using e
    rw [show W.heap[Bs]? = _ from hb] at h
    cases h
    cases hc)⟩
/-- How a round ends: it goes on, or it says 'no more'. -/
def ROut (Kp : World → World → Prop) (J Jx : List U16 → World → Prop) (pre : List U16) (x : U16) (W : World) (bo : Bool) (W' : World) : Prop :=
  (bo = true ∧ J (pre ++ [x]) W' ∧ Kp W W') ∨ (bo = false ∧ Jx (pre ++ [x]) W')
theorem rout_of {Kp : World → World → Prop} {J Jx : List U16 → World → Prop} {pre : List U16} {x : U16} {W : World} {e : Ending} {W' : World}
    (h : (e = .returned (.bool true) ∧ J (pre ++ [x]) W' ∧ Kp W W') ∨ (e = .returned (.bool false) ∧ Jx (pre ++ [x]) W')) : ∃ bo : Bool, e = .returned (.bool bo) ∧ ROut Kp J Jx pre x W bo W' := by
  rcases h with ⟨rfl, h1, h2⟩ | ⟨rfl, h1⟩
  · exact ⟨true, rfl, .inl ⟨rfl, h1, h2⟩⟩
  · exact ⟨false, rfl, .inr ⟨rfl, h1⟩⟩
set_option maxRecDepth 100000 in
set_option maxHeartbeats 2000000 in
theorem pairs1_in (n : Nat) (hn : 1 ≤ n) (l Bs n₀ b off m cap : Nat) (L : Nat) (hL : L = 2 * m) (f : Nat → U8) (hreach : m ≤ 1000000000000000) (hb : b < n₀) (J Jx : List U16 → World → Prop)
    (hY : ∀ pre x W, J pre W → pre.length < m → YieldAt Fence.wide (n - 1) Try.prog l #[.int .u16 x.1] W fun e W' =>
      (e = .returned (.bool true) ∧ J (pre ++ [x]) W' ∧ KeepB n₀ Bs W W') ∨ (e = .returned (.bool false) ∧ Jx (pre ++ [x]) W'))
    (hJd : ∀ s W, J s W → J s W.drew)
    (W : World) (hBs : Boxed W Bs 23 (.slice (some ⟨b, off, none⟩) L cap)) (hc : ∀ j, j < 2 * m → W.cell? ⟨b, off + j, none⟩ = some (.int .u8 (f j).1)) (h0 : J [] W) :
    CallsIn Fence.wide n Try.prog 31 #[.func (.yield l) #[] #[], .pointer (some ⟨Bs, 0, none⟩)] W fun e W' => (∃ v, e = .returned v) ∧
      ((∃ ys, ys = upto (fun j => pr (f (2 * j)) (f (2 * j + 1))) m ∧ J ys W') ∨ (∃ pre, (∃ k, k ≤ m ∧ pre = upto (fun j => pr (f (2 * j)) (f (2 * j + 1))) k) ∧ Jx pre W')) := by
  have hc0 := hBs.cell
  have HL := Lib.hid hL
  have hLb : L ≤ 2000000000000000 := by omega
  clear hL
  refine callsIn_of_wp Try.func31 rfl trivial ?_ rfl
  simp only [Try.ntmps31, List.size_toArray, List.length_cons, List.length_nil, Nat.reduceAdd, Nat.reduceSub, Array.replicate_succ, Array.replicate_zero, List.push_toArray, List.append_toArray, List.nil_append, List.cons_append]
  gi_wp2
  gi_loopw [3] (fun i wr => ∃ k i0 : Nat, k ≤ m ∧ i0 = 2 * k ∧ i = .int .i64 i0 ∧ J (upto (fun j => pr (f (2 * j)) (f (2 * j + 1))) k) wr ∧ KeepB n₀ Bs W wr)
    (fun i _ => L - (intOf i).toNat)
  case atStart => exact ⟨0, 0, Nat.zero_le _, rfl, rfl, h0, KeepB.refl _ _ _⟩
  case round =>
    obtain ⟨k, i0, hk, hi0, rfl, hJs, hnx⟩ := hrel
    have hbs := (hnx.2 _ hBs).cell
    have hmx : Try.prog.follows .mixedOrders = true := by kernel_rfl
    have hL := HL.out
    by_cases hlt : k < m
    · have hY1 := (hY _ (pr (f i0) (f (i0 + 1))) wr.drew (hJd _ _ hJs) (by rw [upto_length]; exact hlt)).mono (fun _ _ => rout_of)
      obtain ⟨fn, tmps, assign, body, hy, hR⟩ := hY1
      have c1 := (hnx.1.cell (p := ⟨b, off + i0, none⟩) hb).trans (hc i0 (by omega))
      have c2 := (hnx.1.cell (p := ⟨b, off + (i0 + 1), none⟩) hb).trans (hc (i0 + 1) (by omega))
      have b1 := (f i0).2
      have b2 := (f (i0 + 1)).2
      have ho := or_u16 _ _ b1.1 b1.2 b2.1 b2.2
      have hw1 : IntKind.u16.wrap (f i0).1 = (f i0).1 := by rw [IntKind.wrap_u16]; omega
      have hw2 : IntKind.u16.wrap ((f i0).1 * 256) = (f i0).1 * 256 := by rw [IntKind.wrap_u16]; omega
      have hw3 : IntKind.u16.wrap (f (i0 + 1)).1 = (f (i0 + 1)).1 := by rw [IntKind.wrap_u16]; omega
      have hlt2 : i0 + 1 < L := by omega
      have hi1 : i0 < L := by omega
      have hlt3 : (i0 : Int) + 1 < (L : Int) := by omega
      have hge : 0 ≤ (i0 : Int) + 1 := by omega
      have hw : IntKind.i64.wrap ((i0 : Int) + 1) = (i0 : Int) + 1 := IntWalk.i64_in _ (by omega)
      have ht : ((i0 : Int) + 1).toNat = i0 + 1 := by omega
      dsimp only [pr] at hy
      have HR := Lib.hid hR
      have HI0 := Lib.hid hi0
      have HNX := Lib.hid hnx
      clear hR hi0 hnx hY hc hL
      gi_upto_region 3 with (fail)
      refine regionIn_tail (wide_plain _ _) 14 hmx (by kernel_rfl) rfl ?_
      simp only [List.take_succ_cons, List.take_zero, List.drop_succ_cons, List.drop_zero]
      repeat still_step
      refine wpStill_nil ?_
      gi_wp2
      refine HR.out.mono ?_
      rintro e W3 ⟨bo, rfl, hO⟩
      clear hw hw1 hw2 hw3 ht ho
      have hi0 := HI0.out
      subst hi0
      have hnx := HNX.out
      rcases hO with ⟨rfl, hJ3, hk3⟩ | ⟨rfl, hJx3⟩
      · gi_wp2
        go_roundw
        case rel => exact ⟨k + 1, 2 * (k + 1), by omega, rfl, by go_num, by rw [upto_succ]; exact hJ3, hnx.trans ((KeepB.drew _ _ _).trans hk3)⟩
        case measure => simp [intOf]; omega
      · gi_wp2
        refine bodyPost_ret (results_none rfl _ _ _) rfl ?_
        exact ⟨⟨_, rfl⟩, .inr ⟨_, ⟨k + 1, by omega, (upto_succ _ _).symm⟩, hJx3⟩⟩
    · obtain rfl : k = m := by omega
      have hlt' : ¬ ((i0 : Int) + 1 < (L : Int)) := by omega
      clear hL
      gi_wp2
      go_end0
      first | exact ⟨⟨_, rfl⟩, .inl ⟨_, rfl, hJs⟩⟩ | exact ⟨⟨_, rfl⟩, .inl hJs⟩
end Go.Proofs.Ytkghiendflheiaa
