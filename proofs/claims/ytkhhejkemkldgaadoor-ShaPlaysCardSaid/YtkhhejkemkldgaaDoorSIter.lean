/- The iterator blocksOf: bytes in blocks. -/
import Derived.Test.YtkhhejkemkldgaaDoorSCopy
import Derived.Test.YtkhhejkemkldgaaDoorSLoop
import Derived.Shelf.RegionOpen
import Derived.WalkKit
import Derived.OwnWalkIn
import Derived.TacticsInMore
import Derived.LoopNIn
import Derived.LoopIn
import Derived.Sort.CutIn
import Derived.IntWalk
set_option linter.unusedVariables false
namespace Go.Proofs.YtkhhejkemkldgaaDoor
open Go.RowKit Go.Shelf
attribute [local go_sem] Oper.semAt_some
/-- How many bytes block k has. -/
def fill (xs : List Int) (k : Nat) : Nat := min 64 (xs.length - 64 * k)
def elemOf (xs : List Int) (k : Nat) : Array Value := #[.agg (nums .u8 64 (bf (blk xs k))), .int .i64 (fill xs k)]
theorem blk_get (xs : List Int) (k j : Nat) (hj : j < 64) : bf (blk xs k) j = xs.getD (64 * k + j) 0 := by simp [bf, blk, List.getD, hj]
/-- At a round's head: of block k the first f bytes, that are held, and then noughts. -/
def headB (xs : List Int) (k f j : Nat) : Int := if j < f then xs.getD (64 * k + j) 0 else 0
theorem KeepsC.own {S : Nat} {W X Y : World} (h : KeepsC S W X) {g : Nat} (hg : X.grownBy Y (some g)) (hlt : W.heap.size ≤ g) : KeepsC S W Y :=
  ⟨Nat.le_trans h.size hg.size, fun j o hj ho hc => (hg.block j (Nat.lt_of_lt_of_le (Array.getElem?_eq_some_iff.1 ho).1 h.size) (fun e => by
    have := (Array.getElem?_eq_some_iff.1 ho).1
    injection e with e; omega)).trans (h.same j o hj ho hc)⟩
theorem KeepsC.drew (S : Nat) (W : World) : KeepsC S W W.drew := ⟨Nat.le_refl _, fun _ _ _ h _ => h⟩
theorem KeepsC.at_ {S : Nat} {X Y : World} (h : KeepsC S X Y) {T : TypeId} {b : Nat} {cs : Array Value} (hb : At T X b cs) (hne : b ≠ S) : At T Y b cs := h.same b _ hne hb rfl
theorem KeepsC.boxed {S : Nat} {X Y : World} (h : KeepsC S X Y) {T : TypeId} {b : Nat} {v : Value} (hb : Boxed X b T v) (hne : b ≠ S) : Boxed Y b T v := h.same b _ hne hb rfl
theorem grown_setRow (w : World) (g : Nat) (cs : Array Value) : w.grownBy (w.setRow g cs) (some g) :=
  ⟨rfl, rfl, rfl, by simp, fun k _ hk => setRow_other w g k cs (fun e => hk (by rw [e]))⟩
theorem built_block : Tryd.prog.built 29 [] = some (nums .u8 64 fun _ => 0) := by kernel_rfl
theorem build_block_in {F : Fence} {n : Nat} {w : World} {ops : Array Oper} {rest : List Oper} {o : Oper} {a : Act} {Q : Exit → Act → World → Prop} (hF : ∀ f, F.fn f)
    (hgd : o.guard = none) (ho : o.op = .build 29 #[]) (h : wpListIn F n Tryd.prog ops Q rest (a.put o.dst (.agg (nums .u8 64 fun _ => 0))) w) : wpListIn F n Tryd.prog ops Q (o :: rest) a w := by
  refine wpListIn_val hF hgd (by rw [ho]; intro c hc; cases hc) ?_ h
  unfold execOp
  have e : ((#[] : Array (Nat × Operand)).map fun (i, x) => (i, a.eval x)).toList = [] := by simp
  simp only [ho, Sem.run_bind, run_build w 29 _ _ (show Tryd.prog.built 29 _ = some (nums .u8 64 fun _ => 0) by rw [e]; exact built_block), Result.andThen_ok]
  rfl
theorem new_row {hs ys : List Int} {k f fr : Nat} (he : fr + hs.length = 64 * k + f) (hf : f < 64) (hfr : fr ≤ ys.length) (hk0 : k = 0 ∧ f = hs.length ∨ f = 0) (j : Nat) (hj : j < 64) :
    (if f ≤ j ∧ j < f + min (64 - f) (ys.drop fr).length then (ys.drop fr).getD (j - f) 0 else headB (hs ++ ys) k f j) = bf (blk (hs ++ ys) k) j := by
  rw [blk_get _ _ _ hj, List.length_drop]
  by_cases h : f ≤ j ∧ j < f + min (64 - f) (ys.length - fr)
  · rw [if_pos h, List.getD, List.getElem?_drop, List.getD, List.getElem?_append_right (by omega), show fr + (j - f) = 64 * k + j - hs.length by omega]
  · rw [if_neg h]
    unfold headB
    by_cases h2 : j < f
    · rw [if_pos h2]
    · rw [if_neg h2, List.getD, List.getElem?_eq_none (by rw [List.length_append]; omega)]; rfl
theorem new_fill {hs ys : List Int} {k f fr : Nat} (he : fr + hs.length = 64 * k + f) (hf : f < 64) (hfr : fr ≤ ys.length) : f + min (64 - f) (ys.drop fr).length = fill (hs ++ ys) k := by
  unfold fill; rw [List.length_append, List.length_drop]; omega
set_option maxRecDepth 100000 in
set_option maxHeartbeats 2000000 in
theorem blocks1_in (n : Nat) (hn : 1 ≤ n) (l S Bh Bb n₀ : Nat) (Ah : Option Addr) (ch : Nat) (hs ys : List Int) (Ab : Option Addr) (cb : Nat) (hh : hs.length < 64) (hcb : ys.length ≤ cb) (hreach : ys.length ≤ 1000000000000) (B : Nat) (m : Nat) (hm : m = (hs ++ ys).length / 64)
    (J : Nat → World → Prop) (Jx : World → Prop) (W : World) (hJ : ∀ k, Stays n₀ (J k)) (hn₀ : n₀ ≤ W.heap.size) (hSlt : S < n₀) (hBhlt : Bh < n₀) (hBblt : Bb < n₀) (hS1 : Bh ≠ S) (hS2 : Bb ≠ S)
    (hY1 : ∀ k W1, k < m → J k W1 → YieldAt Fence.wide (n - 1) Tryd.prog l (elemOf (hs ++ ys) k) W1 fun e W' => e = .returned (.bool true) ∧ J (k + 1) W' ∧ KeepsC S W1 W')
    (hY2 : ∀ W1, J m W1 → YieldAt Fence.wide (n - 1) Tryd.prog l (elemOf (hs ++ ys) m) W1 fun e W' => e = .returned (.bool false) ∧ Jx W')
    (hBh : Boxed W Bh 33 (.slice Ah hs.length ch)) (hBb : Boxed W Bb 33 (.slice Ab ys.length cb)) (hh8 : Bys8 n₀ W (.slice Ah hs.length ch) hs) (hb8 : ∀ X, KeepsC S W X → Bys8 n₀ X (.slice Ab ys.length cb) ys) (h0 : J 0 W) :
    CallsIn Fence.wide n Tryd.prog 42 #[.func (.yield l) #[] #[], .pointer (some ⟨Bh, 0, none⟩), .pointer (some ⟨Bb, 0, none⟩)] W fun e W' => (∃ v, e = .returned v) ∧ Jx W' := by
  have hz := (zero_of_info zero_block).1
  have hmx : Tryd.prog.follows .mixedOrders = true := by kernel_rfl
  have cH := hBh.cell
  have cB := hBb.cell
  have HBH := Lib.hid hBh
  have HBB := Lib.hid hBb
  have H8 := Lib.hid hh8
  have B8 := Lib.hid hb8
  have HM := Lib.hid hm
  have HJ := Lib.hid hJ
  have Y1 := Lib.hid hY1
  have Y2 := Lib.hid hY2
  clear hBh hBb hh8 hb8 hm hJ hY1 hY2
  refine callsIn_of_wp Tryd.func42 rfl trivial ?_ rfl
  simp only [Tryd.ntmps42, List.size_toArray, List.length_cons, List.length_nil, Nat.reduceAdd, Nat.reduceSub, Array.replicate_succ, Array.replicate_zero, List.push_toArray, List.append_toArray, List.nil_append, List.cons_append]
  gi_upto_region 1 with (fail)
  have hlt := HBH.out.lt
  have hA0 := At.new 29 W (nums .u8 64 fun _ => 0)
  have K0 : KeepsC S W (W.alloc (.cells (nums .u8 64 fun _ => 0) 29)) := KeepsC.grownNone (World.grownBy_alloc W _ none)
  refine regionIn_tail (wide_plain _ _) 2 hmx (by kernel_rfl) rfl ?_
  simp only [List.take_succ_cons, List.take_zero, List.drop_succ_cons, List.drop_zero]
  repeat still_step
  refine wpStill_nil ?_
  have hb0 : Below n₀ W (W.alloc (.cells (nums .u8 64 fun _ => 0) 29)).drew := ((Below.refl _ W).alloc (by omega) _).drew
  refine copy_block_in (fun _ => trivial) rfl (.tmp 8) (.tmp 9) rfl W.heap.size 0 64 (fun _ => 0) (by omega) rfl hA0.drew n₀ Ah hs.length ch hs rfl (H8.out.below hb0) ?_
  intro w2 hA2 hG2
  rw [show min (64 - 0) hs.length = hs.length by omega]
  rw [show min (64 - 0) hs.length = hs.length by omega] at hA2
  have hA3 : At 29 w2 W.heap.size (nums .u8 64 (headB (hs ++ ys) 0 hs.length)) := hA2.like fun j hj => by
    unfold headB
    by_cases h : j < hs.length
    · rw [if_pos h, if_pos (by omega), Nat.mul_zero, Nat.zero_add, Nat.sub_zero, List.getD, List.getD, List.getElem?_append_left h]
    · rw [if_neg h, if_neg (by omega)]
  have hK2 : KeepsC S W w2 := (K0.trans (KeepsC.drew S _)).own hG2 (Nat.le_refl _)
  have hJ2 : J 0 w2 := by
    refine HJ.out 0 _ _ (some W.heap.size) ((HJ.out 0).drew (HJ.out 0 _ _ none h0 (World.grownBy_alloc W _ none) (fun r e => by cases e))) hG2 (fun r e => ?_)
    obtain rfl : W.heap.size = r := by injection e
    exact ⟨hn₀, _, hA0.drew, rfl⟩
  have HA := Lib.hid hA3
  have HK := Lib.hid hK2
  clear hA2 hA3 hG2 hK2 K0 hA0 hb0 h0 cH cB
  gi_wp2
  gi_loopw [5, 6] (fun fv rv wr => ∃ k f fr : Nat, k ≤ m ∧ fr + hs.length = 64 * k + f ∧ f < 64 ∧ fr ≤ ys.length ∧ (k = 0 ∧ f = hs.length ∨ f = 0) ∧ fv = .int .i64 f ∧ rv = .int .i64 fr ∧ J k wr ∧ At 29 wr W.heap.size (nums .u8 64 (headB (hs ++ ys) k f)) ∧ KeepsC S W wr)
    (fun _ rv _ => ys.length - (intOf rv).toNat)
  case atStart => exact ⟨0, hs.length, 0, by omega, by omega, hh, by omega, .inl ⟨rfl, rfl⟩, rfl, rfl, hJ2, HA.out, HK.out⟩
  case round =>
    clear hJ2 HA HK
    obtain ⟨k, f, fr, hk, he, hf, hfr, hk0, rfl, rfl, hJk, hAk, hKk⟩ := hrel
    obtain ⟨A', c', hsl1, hsl2, hsb⟩ := slice_from Ab ys.length cb fr hfr hcb
    have hnx := slice_next W.heap.size f hf
    have cB := (hKk.boxed HBB.out hS2).cell
    have hb8 := hsb _ _ _ (B8.out _ (hKk.trans (KeepsC.drew S _)))
    have NF := Lib.hid (new_fill (hs := hs) (ys := ys) he hf hfr)
    have NR := Lib.hid (new_row (hs := hs) (ys := ys) he hf hfr hk0)
    have hfi : (f : Int) ≤ 64 := by omega
    have HE := Lib.hid (And.intro he (And.intro hfr hk0))
    have HAK := Lib.hid hAk
    have HKK := Lib.hid hKk
    have H8b := Lib.hid hb8
    have HJK := Lib.hid hJk
    clear he hfr hk0 hAk hKk hb8 hsb hJk
    gi_upto_region 3 with (fail)
    refine regionIn_tail (wide_plain _ _) 5 hmx (by kernel_rfl) rfl ?_
    simp only [List.take_succ_cons, List.take_zero, List.drop_succ_cons, List.drop_zero]
    repeat still_step
    refine wpStill_nil ?_
    refine copy_block_in (fun _ => trivial) rfl (.tmp 12) (.tmp 15) rfl W.heap.size f (64 - f) _ (by omega) rfl HAK.out.drew n₀ A' (ys.length - fr) c' (ys.drop fr) rfl H8b.out ?_
    intro w3 hA3 hG3
    have hA4 : At 29 w3 W.heap.size (nums .u8 64 (bf (blk (hs ++ ys) k))) := hA3.like fun j hj => NR.out j hj
    have hK3 : KeepsC S W w3 := (HKK.out.trans (KeepsC.drew S _)).own hG3 (Nat.le_refl _)
    have hJ3 : J k w3 := by
      refine HJ.out k _ _ (some W.heap.size) ((HJ.out k).drew HJK.out) hG3 (fun r e => ?_)
      obtain rfl : W.heap.size = r := by injection e
      exact ⟨hn₀, _, HAK.out.drew, rfl⟩
    have hfl := NF.out
    generalize min (64 - f) (ys.drop fr).length = c at *
    have hc64 : f + c ≤ 64 := by rw [hfl]; unfold fill; omega
    have HA4 := Lib.hid hA4
    have HK3 := Lib.hid hK3
    clear hA3 hG3 hA4 hK3 NR NF H8b HAK HKK HJK hsl1 hsl2 hnx cB
    by_cases hkm : k < m
    · obtain ⟨fn, tmps, assign, body, hy, hR⟩ := Y1.out k w3 hkm hJ3
      unfold elemOf at hy
      rw [← hfl, Int.natCast_add] at hy
      have HR := Lib.hid hR
      have HFL := Lib.hid hfl
      have HKM := Lib.hid hkm
      clear hR hfl hJ3 hkm
      gi_wp2_with (refine load_block_in (fun _ => trivial) HA4.out rfl rfl rfl ?_)
      refine HR.out.mono ?_
      rintro e W3 ⟨rfl, hJ5, hK5⟩
      have hm := HM.out
      have hkm := HKM.out
      have hfl := HFL.out
      obtain ⟨he, hfr, hk0⟩ := HE.out
      rw [List.length_append] at hm
      have hc : f + c = 64 := by
        rw [hfl]; unfold fill; rw [List.length_append]; omega
      have hsum : fr + c + hs.length = 64 * (k + 1) := by omega
      have hle : fr + c ≤ ys.length := by omega
      have hc0 : 0 < c := by omega
      have hA5 : At 29 W3 W.heap.size (nums .u8 64 (bf (blk (hs ++ ys) k))) := hK5.at_ HA4.out (by omega)
      have HA5 := Lib.hid hA5
      have HK5 := Lib.hid (HK3.out.trans hK5)
      have HJ5 := Lib.hid hJ5
      have HX := Lib.hid (And.intro hsum (And.intro hle (And.intro hc0 (And.intro hkm hfr))))
      have hub : (fr : Int) + (c : Int) ≤ 2000000000000 := by omega
      clear hm hkm hfl he hfr hk0 hc hsum hle hc0 hA5 hJ5 hK5 HA4 HK3 HFL HKM HR
      gi_wp2_with (first | (refine build_block_in (fun _ => trivial) rfl rfl ?_) | (refine store_block_in (fun _ => trivial) HA5.out rfl rfl rfl rfl ?_))
      go_roundw
      case rel =>
        obtain ⟨hsum, hle, hc0, hkm, hfr⟩ := HX.out
        refine ⟨k + 1, 0, fr + c, by omega, by omega, by omega, hle, .inr rfl, rfl, by go_num, ?_, ?_, HK5.out.own (grown_setRow _ _ _) (Nat.le_refl _)⟩
        · refine HJ.out (k + 1) _ _ (some W.heap.size) HJ5.out (grown_setRow _ _ _) (fun r e => ?_)
          obtain rfl : W.heap.size = r := by injection e
          exact ⟨hn₀, _, HA5.out, rfl⟩
        · exact (HA5.out.row (cs' := nums .u8 64 fun _ => 0)).like fun j hj => by unfold headB; rw [if_neg (by omega)]
      case measure =>
        obtain ⟨hsum, hle, hc0, hkm, hfr⟩ := HX.out
        simp [intOf]; omega
    · obtain rfl : k = m := by omega
      obtain ⟨fn, tmps, assign, body, hy, hR⟩ := Y2.out w3 hJ3
      unfold elemOf at hy
      rw [← hfl, Int.natCast_add] at hy
      have HR := Lib.hid hR
      clear hR hfl hJ3 hkm
      gi_wp2_with (refine load_block_in (fun _ => trivial) HA4.out rfl rfl rfl ?_)
      refine HR.out.mono ?_
      rintro e W3 ⟨rfl, hJx⟩
      gi_wp2
      refine bodyPost_ret (results_none rfl _ _ _) rfl ?_
      exact ⟨⟨_, rfl⟩, hJx⟩
theorem blocksOf_in (n : Nat) (Ah Ab : Option Addr) (lh ch lb cb : Nat) (w : World) :
    CallsIn Fence.wide n Tryd.prog 26 #[.slice Ah lh ch, .slice Ab lb cb] w fun e w' => e = .returned (.func (.func 42) #[] #[.pointer (some ⟨w.heap.size, 0, none⟩), .pointer (some ⟨w.heap.size + 1, 0, none⟩)]) ∧ w' = (w.alloc (.cells #[.slice Ah lh ch] 33)).alloc (.cells #[.slice Ab lb cb] 33) := by
  refine callsIn_of_wp Tryd.func26 rfl trivial ?_ rfl
  simp only [Tryd.ntmps26, List.size_toArray, List.length_cons, List.length_nil, Nat.reduceAdd, Nat.reduceSub, Array.replicate_succ, Array.replicate_zero, List.push_toArray, List.append_toArray, List.nil_append, List.cons_append]
  gi_wp2
  go_ret
  exact ⟨rfl, rfl⟩
/-- The iterator, at a world in which both boxes lie, the held bytes lie in block S, and the others elsewhere. -/
theorem blocks_goes (n : Nat) (hn : 1 ≤ n) (S Bh Bb : Nat) (Ah : Option Addr) (ch : Nat) (hs ys : List Int) (Ab : Option Addr) (cb : Nat) (hh : hs.length < 64) (hcb : ys.length ≤ cb) (hreach : ys.length ≤ 1000000000000) (w : World)
    (hSlt : S < w.heap.size) (hS1 : Bh ≠ S) (hS2 : Bb ≠ S) (hBh : Boxed w Bh 33 (.slice Ah hs.length ch)) (hBb : Boxed w Bb 33 (.slice Ab ys.length cb)) (hh8 : Bys8 w.heap.size w (.slice Ah hs.length ch) hs)
    (hb8 : ∀ X, KeepsC S w X → Bys8 w.heap.size X (.slice Ab ys.length cb) ys) :
    SeqGoes n Tryd.prog 42 #[.pointer (some ⟨Bh, 0, none⟩), .pointer (some ⟨Bb, 0, none⟩)] ((hs ++ ys).length / 64) S (elemOf (hs ++ ys)) w := by
  intro l J Jx W hW hJ _ hY1 hY2 h0
  have hk : KeepsC S w W := ⟨hW.size, fun j o _ ho _ => (hW.block j (Array.getElem?_eq_some_iff.1 ho).1).trans ho⟩
  have hb : ∀ {B : Nat} {v : Value}, Boxed w B 33 v → Boxed W B 33 v := fun h => (hW.block _ h.lt).trans h
  exact blocks1_in n hn l S Bh Bb w.heap.size Ah ch hs ys Ab cb hh hcb hreach 0 _ rfl J Jx W hJ hW.size hSlt hBh.lt hBb.lt hS1 hS2 hY1 hY2 (hb hBh) (hb hBb) (hh8.below hW) (fun X hX => hb8 X (hk.trans hX)) h0
end Go.Proofs.YtkhhejkemkldgaaDoor
