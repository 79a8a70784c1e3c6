/- The iterator bitsOf of package crc: all bits of bytes, in their order. -/
import Derived.RangeFuncNested
import Derived.RangeFuncBound
import Derived.RangeFuncCalls
import Derived.RangeFuncLeaves
import Derived.RangeFuncBox
import Derived.Shelf.Abstract
import Derived.Shelf.RegionOpen
import Derived.WalkKit
import Derived.OwnWalkIn
import Derived.TacticsInMore
import Derived.LoopNIn
import Derived.LoopIn
import Derived.IntWalk
import Derived.Laws.BitsLemmas
import Derived.Test.YtpcbolmidnoaiaaCMath
import Derived.Test.YtpcbolmidnoaiaaProg
set_option linter.unusedVariables false
namespace Go.Proofs.Ytpcbolmidnoaiaa
open Go.RowKit Go.Shelf
attribute [local go_sem] Oper.semAt_some
def bitAt (xs : List Int) (j : Nat) : Bool := (xs.getD (j / 8) 0).toNat.testBit (j % 8)
def bitsL (xs : List Int) : List Bool := upto (bitAt xs) (8 * xs.length)
def bv (b : Bool) : Int := if b then 1 else 0
theorem bit_val (c : Int) (k : Nat) (h0 : 0 ≤ c) (h1 : c < 256) : bits .and .u8 (c / (2 : Int) ^ k) 1 = bv (c.toNat.testBit k) := by
  obtain ⟨m, rfl⟩ := Int.eq_ofNat_of_zero_le h0
  have hm : m < 256 := by omega
  have e1 : ((m : Int) / (2 : Int) ^ k) = ((m / 2 ^ k : Nat) : Int) := by
    rw [Int.natCast_ediv]; simp
  have hlt : m / 2 ^ k < 2 ^ 8 := Nat.lt_of_le_of_lt (Nat.div_le_self _ _) hm
  rw [e1]
  have := (bits_nat .u8 8 (by decide) wraps_u8 (m / 2 ^ k) 1 hlt (by decide)).1
  rw [show ((1 : Nat) : Int) = 1 from rfl] at this
  rw [this, Nat.and_one_is_mod]
  simp only [Int.toNat_natCast, Nat.testBit_eq_decide_div_mod_eq, bv]
  have := Nat.mod_lt (m / 2 ^ k) (show 0 < 2 by decide)
  by_cases h : m / 2 ^ k % 2 = 1
  · simp [h]
  · have : m / 2 ^ k % 2 = 0 := by omega
    simp [this]
set_option maxRecDepth 100000 in
set_option maxHeartbeats 2000000 in
theorem bits1_in (F : Fence) (n : Nat) (h7 : F.fn 84) (hro : F.round = none) (hn : 1 ≤ n) (l Bs n₀ b off cap : Nat) (xs : List Int) (len : Nat) (hlen : xs.length = len) (hx : ∀ x ∈ xs, 0 ≤ x ∧ x < 256) (hreach : len ≤ 100000000000000) (hb : b < n₀) (J Jx : List Bool → World → Prop)
    (hY : ∀ pre x W, J pre W → pre.length < 8 * len → YieldAt F (n - 1) Try.prog l #[.int .u8 (bv x)] W fun e W' =>
      (e = .returned (.bool true) ∧ J (pre ++ [x]) W' ∧ Below n₀ W W') ∨ (e = .returned (.bool false) ∧ Jx (pre ++ [x]) W'))
    (W : World) (hBs : W.cell? ⟨Bs, 0, none⟩ = some (.slice (some ⟨b, off, none⟩) len cap)) (hc : ∀ j, j < len → W.cell? ⟨b, off + j, none⟩ = some (.int .u8 (xs.getD j 0))) (h0 : J [] W) :
    CallsIn F n Try.prog 84 #[.func (.yield l) #[] #[], .pointer (some ⟨Bs, 0, none⟩)] W fun e W' => (∃ v, e = .returned v) ∧
      ((∃ ys, ys = upto (bitAt xs) (8 * len) ∧ J ys W') ∨ (∃ pre, (∃ k, k ≤ 8 * len ∧ pre = upto (bitAt xs) k) ∧ Jx pre W')) := by
  refine callsIn_of_wp Try.func84 rfl h7 ?_ hro
  simp only [Try.ntmps84, List.size_toArray, List.length_cons, List.length_nil, Nat.reduceAdd, Nat.reduceSub, Array.replicate_succ, Array.replicate_zero, List.push_toArray, List.append_toArray, List.nil_append, List.cons_append]
  gi_wp2
  gi_loopw [8] (fun i wr => ∃ k : Nat, k ≤ len ∧ i = .int .i64 k ∧ J (upto (bitAt xs) (8 * k)) wr ∧ Below n₀ W wr)
    (fun i _ => len - (intOf i).toNat)
  case atStart => exact ⟨0, Nat.zero_le _, rfl, h0, Below.refl _ _⟩
  case round =>
    obtain ⟨k, hk, rfl, hJs, hnx⟩ := hrel
    by_cases hlt : k < len
    · have hcx : wr.cell? ⟨b, off + k, none⟩ = some (.int .u8 (xs.getD k 0)) := (hnx.cell (p := ⟨b, off + k, none⟩) hb).trans (hc k hlt)
      have hby := hx (xs.getD k 0) (by simp [List.getD, hlen, hlt])
      have hbq : ∀ q, q < 8 → bitAt xs (8 * k + q) = (xs.getD k 0).toNat.testBit q := fun q hq => by
        unfold bitAt; rw [show (8 * k + q) / 8 = k by omega, show (8 * k + q) % 8 = q by omega]
      generalize xs.getD k 0 = c at hcx hby hbq
      gi_wp2
      gi_loopw [12] (fun i wr' => ∃ q : Nat, q ≤ 8 ∧ i = .int .i64 q ∧ J (upto (bitAt xs) (8 * k + q)) wr' ∧ Below n₀ W wr')
        (fun i _ => 8 - (intOf i).toNat)
      case atStart => exact ⟨0, Nat.zero_le _, rfl, hJs, hnx⟩
      case round =>
        obtain ⟨q, hq, rfl, hJq, hnq⟩ := hrel
        by_cases hq8 : q < 8
        · have hbx := hbq q hq8
          obtain ⟨fn, tmps, assign, body, hy, hR⟩ := hY _ (bitAt xs (8 * k + q)) _ hJq (by rw [upto_length]; omega)
          rw [hbx, ← bit_val _ _ hby.1 hby.2] at hy
          gi_wp2
          refine hR.mono ?_
          rintro e W3 (⟨rfl, hJ3, hk3⟩ | ⟨rfl, hJx3⟩)
          · gi_wp2
            go_roundw
            case rel => exact ⟨q + 1, by omega, by simp, by rw [← Nat.add_assoc, upto_succ]; exact hJ3, hnq.trans hk3⟩
            case measure => simp [intOf]; omega
          · gi_wp2
            refine bodyPost_ret (results_none rfl _ _ _) rfl ?_
            exact ⟨⟨_, rfl⟩, .inr ⟨_, ⟨8 * k + q + 1, by omega, (upto_succ _ _).symm⟩, hJx3⟩⟩
        · obtain rfl : q = 8 := by omega
          gi_wp2
          go_roundw
          case rel => exact ⟨k + 1, by omega, by simp, hJq, hnq⟩
          case measure => simp [intOf]; omega
    · obtain rfl : k = len := by omega
      gi_wp2
      go_end0
      exact ⟨⟨_, rfl⟩, .inl ⟨_, rfl, hJs⟩⟩
/-- The slice value sv holds the bytes xs, in a block below n₀; or there are none. -/
def Bys (n₀ : Nat) (W : World) (sv : Value) (xs : List Int) : Prop :=
  (∀ x ∈ xs, 0 ≤ x ∧ x < 256) ∧ ((xs = [] ∧ ∃ a cap, sv = .slice a 0 cap) ∨ ∃ b off cap, sv = .slice (some ⟨b, off, none⟩) xs.length cap ∧ b < n₀ ∧ ∀ j, j < xs.length → W.cell? ⟨b, off + j, none⟩ = some (.int .u8 (xs.getD j 0)))
theorem Bys.below {n₀ : Nat} {A B : World} (h : Below n₀ A B) {sv : Value} {xs : List Int} : Bys n₀ A sv xs → Bys n₀ B sv xs
  | ⟨hr, .inl e⟩ => ⟨hr, .inl e⟩
  | ⟨hr, .inr ⟨b, off, cap, e, hb, hc⟩⟩ => ⟨hr, .inr ⟨b, off, cap, e, hb, fun j hj => (h.cell (p := ⟨b, off + j, none⟩) hb).trans (hc j hj)⟩⟩
theorem Bys.mono {n₀ n₁ : Nat} (h : n₀ ≤ n₁) {W : World} {sv : Value} {xs : List Int} : Bys n₀ W sv xs → Bys n₁ W sv xs
  | ⟨hr, .inl e⟩ => ⟨hr, .inl e⟩
  | ⟨hr, .inr ⟨b, off, cap, e, hb, hc⟩⟩ => ⟨hr, .inr ⟨b, off, cap, e, Nat.lt_of_lt_of_le hb h, hc⟩⟩
theorem Bys.is {n₀ : Nat} {W : World} {sv : Value} {xs : List Int} : Bys n₀ W sv xs → ∃ a cap, sv = .slice a xs.length cap
  | ⟨_, .inl ⟨e, a, cap, h⟩⟩ => ⟨a, cap, by rw [e]; exact h⟩
  | ⟨_, .inr ⟨b, off, cap, e, _, _⟩⟩ => ⟨_, cap, e⟩
set_option maxRecDepth 100000 in
set_option maxHeartbeats 1000000 in
theorem bits1_nil_in (F : Fence) (n : Nat) (h7 : F.fn 84) (hro : F.round = none) (l Bs : Nat) (a : Option Addr) (cap : Nat) (J : List Bool → World → Prop) (W : World) (hBs : W.cell? ⟨Bs, 0, none⟩ = some (.slice a 0 cap)) (h0 : J [] W) :
    CallsIn F n Try.prog 84 #[.func (.yield l) #[] #[], .pointer (some ⟨Bs, 0, none⟩)] W fun e W' => (∃ v, e = .returned v) ∧ J [] W' := by
  refine callsIn_of_wp Try.func84 rfl h7 ?_ hro
  simp only [Try.ntmps84, List.size_toArray, List.length_cons, List.length_nil, Nat.reduceAdd, Nat.reduceSub, Array.replicate_succ, Array.replicate_zero, List.push_toArray, List.append_toArray, List.nil_append, List.cons_append]
  gi_wp2
  gi_loopw [8] (fun i wr => i = .int .i64 0 ∧ J [] wr) (fun _ _ => 0)
  case atStart => exact ⟨rfl, h0⟩
  case round =>
    obtain ⟨rfl, hJs⟩ := hrel
    gi_wp2
    go_end0
    exact ⟨⟨_, rfl⟩, hJs⟩
set_option maxHeartbeats 1000000 in
theorem bits_in (F : Fence) (n : Nat) (h5 : F.fn 83) (hro : F.round = none) (a : Option Addr) (len cap : Nat) (w : World) :
    CallsIn F n Try.prog 83 #[.slice a len cap] w fun e w' => e = .returned (.func (.func 84) #[] #[.pointer (some ⟨w.heap.size, 0, none⟩)]) ∧ w' = w.alloc (.cells #[.slice a len cap] 23) := by
  refine callsIn_of_wp Try.func83 rfl h5 ?_ hro
  simp only [Try.ntmps83, List.size_toArray, List.length_cons, List.length_nil, Nat.reduceAdd, Nat.reduceSub, Array.replicate_succ, Array.replicate_zero, List.push_toArray, List.append_toArray, List.nil_append, List.cons_append]
  gi_wp2
  go_ret
  exact ⟨rfl, rfl⟩
theorem bits_stops (F : Fence) (n : Nat) (h7 : F.fn 84) (hro : F.round = none) (hn : 1 ≤ n) (Bs n₀ : Nat) (sv : Value) (xs : List Int) (hreach : xs.length ≤ 100000000000000) (w : World) (hBs : Bs < w.heap.size) (hn₀ : n₀ ≤ w.heap.size)
    (hc : w.cell? ⟨Bs, 0, none⟩ = some sv) (hI : Bys n₀ w sv xs) :
    SeqStopsK F n Try.prog 84 #[.pointer (some ⟨Bs, 0, none⟩)] (fun x : Bool => #[Value.int .u8 (bv x)]) (Below n₀) (fun ys => ys = bitsL xs) (fun _ => True) (8 * xs.length) w := fun l J Jx W hW _ _ hY h0 => by
  have hc' := (hW.cell (p := ⟨Bs, 0, none⟩) hBs).trans hc
  obtain ⟨hr, ⟨rfl, a, cap, rfl⟩ | ⟨b, off, cap, rfl, hb, hcs⟩⟩ := hI.below (hW.mono hn₀)
  · exact (bits1_nil_in F n h7 hro l Bs a cap J W hc' h0).mono fun e W' ⟨he, hj⟩ => ⟨he, .inl ⟨_, rfl, hj⟩⟩
  · refine (bits1_in F n h7 hro hn l Bs n₀ b off cap xs xs.length rfl hr hreach hb J Jx hY W hc' hcs h0).mono ?_
    rintro e W' ⟨he, ⟨ys, rfl, hj⟩ | ⟨pre, ⟨k, hk, rfl⟩, hj⟩⟩
    · exact ⟨he, .inl ⟨_, rfl, hj⟩⟩
    · exact ⟨he, .inr ⟨_, trivial, hj⟩⟩
end Go.Proofs.Ytpcbolmidnoaiaa
