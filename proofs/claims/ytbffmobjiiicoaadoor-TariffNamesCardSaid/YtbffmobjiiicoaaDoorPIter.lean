/- The iterator that pays for pairs. -/
import Derived.Test.YtbffmobjiiicoaaDoorPMath
import Derived.Test.YtbffmobjiiicoaaDoorPOpen
import Derived.Test.YtbffmobjiiicoaaDoorPLoop
import Derived.Test.YtbffmobjiiicoaaDoorFPay
import Derived.LoopNIn
import Derived.LoopIn
import Derived.TacticsInMore
set_option linter.unusedVariables false
set_option linter.unusedSimpArgs false
namespace Go.Proofs.YtbffmobjiiicoaaDoor
open Go.RowKit
attribute [local go_sem] Oper.semAt_some
def encX (L : Nat → Int × Int) (k : Nat) : Array Value := #[.int .i64 (Xs L k), .int .i64 (Es L k)]
set_option maxRecDepth 100000 in
set_option maxHeartbeats 4000000 in
theorem payments1_in (n : Nat) (hn : 1 ≤ n) (l Bl Bp Bq : Nat) (hd : Bl ≠ Bq ∧ Bp ≠ Bq) (a : Option Addr) (len cap : Nat) (L : Nat → Int × Int) (h200 : len ≤ 100000) (base : Nat) (hbq : base ≤ Bq) (S : Nat → Prop) (hS : ∀ j, S j → j ≠ Bl ∧ j ≠ Bp ∧ j ≠ Bq ∧ base ≤ j) (W : World)
    (hbl : W.heap[Bl]? = some (.cells #[.slice a len cap] 26 (0, 0))) (hbp : W.heap[Bp]? = some (.cells #[.pointer (some ⟨Bq, 0, none⟩)] 50 (0, 0))) (hP : PAt 54 W Bq (Fs L 0)) (hA : PairsAt base W a len L)
    (J Jx : Nat → World → Prop) (hJ : ∀ k, SteadyG (fun r => r = Bq) (J k))
    (hY : ∀ k W1, k < len → W.heap.size ≤ W1.heap.size → J k W1 → YieldAt Fence.wide (n - 1) Tryd.prog l (encX L k) W1 fun e W' =>
      (e = .returned (.bool true) ∧ J (k + 1) W' ∧ Only W.heap.size S W1 W') ∨ (e = .returned (.bool false) ∧ Jx k W')) (h0 : J 0 W) :
    CallsIn Fence.wide n Tryd.prog 41 #[.func (.yield l) #[] #[], .pointer (some ⟨Bl, 0, none⟩), .pointer (some ⟨Bp, 0, none⟩)] W fun e W' => (∃ v, e = .returned v) ∧ ((J len W' ∧ PAt 54 W' Bq (Fs L len)) ∨ ∃ k, k < len ∧ Jx k W') := by
  have c0 : W.cell? ⟨Bl, 0, none⟩ = some (.slice a len cap) := cell_of_row _ Bl 0 _ _ _ hbl
  have HLT := Lib.hid (show Bl < W.heap.size ∧ Bp < W.heap.size ∧ Bq < W.heap.size from ⟨(Array.getElem?_eq_some_iff.1 hbl).1, (Array.getElem?_eq_some_iff.1 hbp).1, hP.lt⟩)
  have HJ := Lib.hid hJ
  have HY := Lib.hid hY
  have HS := Lib.hid hS
  have HD := Lib.hid hd
  have HJ0 := Lib.hid h0
  have HBL := Lib.hid hbl
  have HBP := Lib.hid hbp
  have HP := Lib.hid hP
  have HA := Lib.hid hA
  have HL := Lib.hid h200
  have HBQ := Lib.hid hbq
  clear hJ hY hS hd h0 hbl hbp hP hA h200 hbq
  refine callsIn_of_wp Tryd.func41 rfl trivial ?_ rfl
  simp only [Tryd.ntmps41, List.size_toArray, List.length_cons, List.length_nil, Nat.reduceAdd, Nat.reduceSub, Array.replicate_succ, Array.replicate_zero, List.push_toArray, List.append_toArray, List.nil_append, List.cons_append]
  gi_wp2
  gi_loopw [8] (fun i wr => ∃ k : Nat, k ≤ len ∧ i = .int .i64 k ∧ J k wr ∧ W.heap.size ≤ wr.heap.size ∧ wr.heap[Bp]? = some (.cells #[.pointer (some ⟨Bq, 0, none⟩)] 50 (0, 0)) ∧ PAt 54 wr Bq (Fs L k) ∧ PairsAt base wr a len L) (fun i _ => (len - intOf i).toNat)
  case atStart => exact ⟨0, Nat.zero_le _, rfl, HJ0.out, Nat.le_refl _, HBP.out, HP.out, HA.out⟩
  case round =>
    obtain ⟨k, hk, rfl, hJk, hsz, hbp, hP, hA⟩ := hrel
    clear c0 HBL HBP HP HA
    by_cases hlt : k < len
    · have i1 : (k : Int) < len := by omega
      obtain ⟨b, o, rfl, hb, d0, d1⟩ := hA k hlt
      obtain ⟨W2, hW2⟩ : ∃ W2, W2 = wr.alloc (.cells #[.int .i64 (L k).1, .int .i64 (L k).2] 25) := ⟨_, rfl⟩
      have hbW : Below wr.heap.size wr W2 := by rw [hW2]; exact (Below.refl _ wr).alloc (Nat.le_refl _) _
      have hq2 : Bq < wr.heap.size := hP.lt
      have r2 : W2.heap[wr.heap.size]? = some (.cells #[.int .i64 (L k).1, .int .i64 (L k).2] 25 (0, 0)) := by rw [hW2]; exact heap_alloc_new wr _
      have e0 : W2.cell? ⟨wr.heap.size, 0, none⟩ = some (.int .i64 (L k).1) := cell_of_row _ _ 0 _ _ _ r2
      have e1 : W2.cell? ⟨wr.heap.size, 1, none⟩ = some (.int .i64 (L k).2) := cell_of_row _ _ 1 _ _ _ r2
      have hbp2 := (hbW.block Bp (by have := HLT.out.2.1; omega)).trans hbp
      have e2 : W2.cell? ⟨Bp, 0, none⟩ = some (.pointer (some ⟨Bq, 0, none⟩)) := cell_of_row _ _ 0 _ _ _ hbp2
      have HPAY := Lib.hid (pay_any Bq (Fs L k) 0 0 (L k).1 (L k).2 W2 (hP.next hbW) (fs_rests L k))
      have hJ2 : J k W2 := by rw [hW2]; exact (HJ.out k).alloc hJk _
      have HJ2 := Lib.hid hJ2
      have HBP2 := Lib.hid hbp2
      have HA2 := Lib.hid (show PairsAt base W2 (some ⟨b, o, none⟩) len L from hA.next (hbW.mono (show base ≤ wr.heap.size by have := HBQ.out; omega)) (Nat.le_refl _))
      have HSZ2 := Lib.hid (Nat.le_trans hsz hbW.size)
      have HK := Lib.hid hlt
      have HW2 := Lib.hid hW2
      have HLT2 := Lib.hid (show b < wr.heap.size ∧ Bp < W2.heap.size ∧ Bq < W2.heap.size ∧ base ≤ W2.heap.size by
        have := hbW.size; have := HLT.out; have := HBQ.out; exact ⟨by omega, by omega, by omega, by omega⟩)
      rw [hW2] at e0 e1 e2
      clear hJk hsz hbp hP hA hlt hk hb hbW r2 hbp2 hJ2 hW2 hq2
      gi_wp2_with fail
      refine ⟨trivial, ?_⟩
      rw [← HW2.out]
      refine (callsIn_wide.2 HPAY.out).mono ?_
      rintro e X ⟨rfl, hPX, hGX⟩
      have hJX := HJ.out k W2 X (some Bq) HJ2.out hGX (fun r e => by cases e; rfl)
      have hbpX := (hGX.block Bp HLT2.out.2.1 (fun e => by injection e with e; exact HD.out.2 e)).trans HBP2.out
      have hAX : PairsAt base X (some ⟨b, o, none⟩) len L := HA2.out.next ((Below.refl base W2).grown hGX HLT2.out.2.2.2 (fun r e => by cases e; exact HBQ.out)) (Nat.le_refl _)
      have hszX := Nat.le_trans HSZ2.out hGX.size
      obtain ⟨fn, tmps, assign, body, hyy, hR⟩ := HY.out k X HK.out hszX hJX
      unfold encX Xs Es at hyy
      have HR := Lib.hid hR
      have HBPX := Lib.hid hbpX
      have HAX := Lib.hid hAX
      have HPX := Lib.hid (show PAt 54 X Bq (Fs L (k + 1)) from hPX)
      have HSZX := Lib.hid hszX
      clear hR hbpX hAX hPX hGX hJX hszX e0 e1 e2 d0 d1 HPAY HJ2 HBP2 HA2
      gi_wp2_with fail
      refine HR.out.mono ?_
      rintro e W6 (⟨rfl, hJ6, hO6⟩ | ⟨rfl, hJx6⟩)
      · have hs6 := hO6.size
        have hbp6 := (hO6.block Bp HLT.out.2.1 (fun q => (HS.out _ q).2.1 rfl)).trans HBPX.out
        have hP6 : PAt 54 W6 Bq (Fs L (k + 1)) := (hO6.block Bq HLT.out.2.2 (fun q => (HS.out _ q).2.2.1 rfl)).trans HPX.out
        have hA6 : PairsAt base W6 (some ⟨b, o, none⟩) len L := by
          intro i hi
          obtain ⟨b', o', e, hb', h0, h1⟩ := HAX.out i hi
          have hx : ∀ k, W6.cell? ⟨b', k, none⟩ = X.cell? ⟨b', k, none⟩ := fun k => World.cell?_of_block (a := ⟨b', k, none⟩) (hO6.block b' (by have := HLT.out; have := HBQ.out; omega) (fun q => by have := (HS.out _ q).2.2.2; omega))
          exact ⟨b', o', e, hb', (hx _).trans h0, (hx _).trans h1⟩
        have HREL := Lib.hid (show J (k + 1) W6 ∧ W.heap.size ≤ W6.heap.size ∧ W6.heap[Bp]? = some (.cells #[.pointer (some ⟨Bq, 0, none⟩)] 50 (0, 0)) ∧ PAt 54 W6 Bq (Fs L (k + 1)) ∧ PairsAt base W6 (some ⟨b, o, none⟩) len L from ⟨hJ6, by have := HSZX.out; omega, hbp6, hP6, hA6⟩)
        have wk : wrap64 ((k : Int) + 1) = ((k + 1 : Nat) : Int) := by have := HK.out; have := HL.out; unfold wrap64; omega
        clear hJ6 hO6 hs6 hbp6 hP6 hA6 hyy
        gi_wp2
        go_roundw
        case rel => exact ⟨k + 1, HK.out, by first | rfl | rw [wk], HREL.out⟩
        case measure =>
          have hk2 := HK.out
          first
            | (show len - (intOf (.int .i64 (wrap64 ((k : Int) + 1)))).toNat < len - (intOf (.int .i64 (k : Int))).toNat; rw [wk])
            | (show ((len : Int) - intOf (.int .i64 (wrap64 ((k : Int) + 1)))).toNat < ((len : Int) - intOf (.int .i64 (k : Int))).toNat; rw [wk])
            | (show ((len : Int) - intOf (.int .i64 ((k + 1 : Nat) : Int))).toNat < ((len : Int) - intOf (.int .i64 (k : Int))).toNat)
            | (show ((len : Int) - intOf (.int .i64 ((k : Int) + 1))).toNat < ((len : Int) - intOf (.int .i64 (k : Int))).toNat)
          first
            | (show ((len : Int) - ((k + 1 : Nat) : Int)).toNat < ((len : Int) - ((k : Nat) : Int)).toNat; omega)
            | (show ((len : Int) - ((k : Int) + 1)).toNat < ((len : Int) - ((k : Nat) : Int)).toNat; omega)
      · have HJX := Lib.hid hJx6
        clear hJx6 hyy
        gi_wp2
        refine bodyPost_ret (results_none rfl _ _ _) rfl ?_
        exact ⟨⟨_, rfl⟩, .inr ⟨k, HK.out, HJX.out⟩⟩
    · have hke : k = len := by omega
      subst hke
      have i1 : ¬ ((k : Int) < k) := by omega
      have HX := Lib.hid (And.intro hJk hP)
      clear hJk hsz hbp hP hA hlt hk
      gi_wp2
      go_end0
      exact ⟨⟨_, rfl⟩, .inl HX.out⟩
/-- The boxes that paymentsOf lays. -/
abbrev payBoxes (w : World) (a : Option Addr) (len cap Bq : Nat) : World := (w.alloc (.cells #[.slice a len cap] 26)).alloc (.cells #[.pointer (some ⟨Bq, 0, none⟩)] 50)
theorem paymentsOf_in (n : Nat) (a : Option Addr) (len cap Bq : Nat) (w : World) :
    CallsIn Fence.wide n Tryd.prog 19 #[.slice a len cap, .pointer (some ⟨Bq, 0, none⟩)] w fun e w' => e = .returned (.func (.func 41) #[] #[.pointer (some ⟨w.heap.size, 0, none⟩), .pointer (some ⟨w.heap.size + 1, 0, none⟩)]) ∧ w' = payBoxes w a len cap Bq := by
  refine callsIn_of_wp Tryd.func19 rfl trivial ?_ rfl
  simp only [Tryd.ntmps19, List.size_toArray, List.length_cons, List.length_nil, Nat.reduceAdd, Nat.reduceSub, Array.replicate_succ, Array.replicate_zero, List.push_toArray, List.append_toArray, List.nil_append, List.cons_append]
  gi_wp2
  go_ret
  exact ⟨rfl, rfl⟩
theorem payments_seq (n : Nat) (hn : 1 ≤ n) (Bl Bp Bq : Nat) (hd : Bl ≠ Bq ∧ Bp ≠ Bq) (a : Option Addr) (len cap : Nat) (L : Nat → Int × Int) (h200 : len ≤ 100000) (base : Nat) (hbq : base ≤ Bq) (S : Nat → Prop) (hS : ∀ j, S j → j ≠ Bl ∧ j ≠ Bp ∧ j ≠ Bq ∧ base ≤ j) (w : World)
    (hbl : w.heap[Bl]? = some (.cells #[.slice a len cap] 26 (0, 0))) (hbp : w.heap[Bp]? = some (.cells #[.pointer (some ⟨Bq, 0, none⟩)] 50 (0, 0))) (hP : PAt 54 w Bq (Fs L 0)) (hA : PairsAt base w a len L) (hbs : base ≤ w.heap.size) :
    SeqPay n Tryd.prog 41 #[.pointer (some ⟨Bl, 0, none⟩), .pointer (some ⟨Bp, 0, none⟩)] (encX L) len Bq S (fun W' => PAt 54 W' Bq (Fs L len)) w := by
  intro l J Jx W hW hJ hY h0
  exact payments1_in n hn l Bl Bp Bq hd a len cap L h200 base hbq S hS W ((hW.block Bl (Array.getElem?_eq_some_iff.1 hbl).1).trans hbl) ((hW.block Bp (Array.getElem?_eq_some_iff.1 hbp).1).trans hbp) (hP.next hW) (hA.next (hW.mono hbs) (Nat.le_refl _)) J Jx hJ hY h0
end Go.Proofs.YtbffmobjiiicoaaDoor
