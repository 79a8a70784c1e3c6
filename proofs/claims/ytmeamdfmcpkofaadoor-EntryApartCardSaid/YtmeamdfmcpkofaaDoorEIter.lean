/- The iterator fieldsOf. -/
import Derived.Test.YtmeamdfmcpkofaaDoorEField
import Derived.Test.YtmeamdfmcpkofaaDoorFLift
import Derived.Test.YtmeamdfmcpkofaaDoorFBrk
import Derived.RangeFuncNested
import Derived.RangeFuncBound
import Derived.Laws.EntriesVeiled
import Derived.TacticsInMore
import Derived.LoopNIn
import Derived.LoopIn
set_option linter.unusedVariables false
set_option linter.unusedSimpArgs false
namespace Go.Proofs.YtmeamdfmcpkofaaDoor
open Go.RowKit Go.Shelf
attribute [local go_sem] Oper.semAt_some
theorem grown_of {X Y : World} (h : Below X.heap.size X Y) (row : Option Nat) : X.grownBy Y row := ⟨h.os, h.tape, h.output, h.size, fun k hk _ => h.block k hk⟩
theorem TabE.keep {w w' : World} (h : TabE w) (hk : ∀ k, k < w.heap.size → w'.heap[k]? = w.heap[k]?) (hs : w.heap.size ≤ w'.heap.size) : TabE w' := by
  have hk' : ∀ {g : Nat} {o : Obj}, w.heap[g]? = some o → w'.heap[g]? = some o := fun {g o} e => (hk g (Array.getElem?_eq_some_iff.1 e).1).trans e
  obtain ⟨⟨T0, f0, h0⟩, ⟨T1, f1, h1⟩, ⟨T2, f2, h2⟩, S, T, fr, h3, h4⟩ := h
  refine ⟨⟨T0, f0, hk' h0⟩, ⟨T1, f1, hk' h1⟩, ⟨T2, f2, hk' h2⟩, S, T, fr, hk' h3, fun k hk6 => ?_⟩
  obtain ⟨a, cap, e1, e2, e3⟩ := h4 k hk6
  refine ⟨a, cap, e1, e2, fun j hj => ?_⟩
  obtain ⟨x, rfl, hx, hc⟩ := e3 j hj
  exact ⟨x, rfl, Nat.lt_of_lt_of_le hx hs, (World.cell?_of_block (a := x.add j) (hk _ (by unfold Addr.add; split <;> exact hx))).trans hc⟩
def encF (k f : Nat) : Array Value := #[.agg (fdV k f)]
theorem fieldsOf_in (n : Nat) (k : Int) (w : World) :
    CallsIn Fence.wide n Tryd.prog 28 #[.int .i64 k] w fun e w' => e = .returned (.func (.func 49) #[] #[.pointer (some ⟨w.heap.size, 0, none⟩)]) ∧ w' = w.alloc (.cells #[.int .i64 k] 3) := by
  refine callsIn_of_wp Tryd.func28 rfl trivial ?_ rfl
  simp only [Tryd.ntmps28, List.size_toArray, List.length_cons, List.length_nil, Nat.reduceAdd, Nat.reduceSub, Array.replicate_succ, Array.replicate_zero, List.push_toArray, List.append_toArray, List.nil_append, List.cons_append]
  gi_wp2
  go_ret
  exact ⟨rfl, rfl⟩
theorem lay_lt {k j : Nat} (hk : k < 6) (hj : j < (layN k).length) : (layN k).getD j 0 < 10 := by
  have : k = 0 ∨ k = 1 ∨ k = 2 ∨ k = 3 ∨ k = 4 ∨ k = 5 := by omega
  rcases this with rfl | rfl | rfl | rfl | rfl | rfl <;> simp [layN] at hj ⊢ <;> (have : j = 0 ∨ j = 1 ∨ j = 2 ∨ j = 3 ∨ j = 4 ∨ j = 5 ∨ j = 6 := by omega) <;> rcases this with rfl | rfl | rfl | rfl | rfl | rfl | rfl <;> simp at hj ⊢
theorem lay_len {k : Nat} : (layN k).length ≤ 7 := by
  unfold layN; split <;> simp
theorem name_nat {k : Nat} (hk : k < 6) : nameS (k : Int) = wordS k := by unfold nameS; rw [if_pos (by omega)]; rfl
theorem words_ne {k : Nat} (h : 1 ≤ k ∧ k < 6) : wordS k ≠ ⟨#[]⟩ := by
  have : k = 1 ∨ k = 2 ∨ k = 3 ∨ k = 4 ∨ k = 5 := by omega
  rcases this with rfl | rfl | rfl | rfl | rfl <;> simp [wordS]
theorem meas_lt {m j : Nat} (h : j < m) {x : Int} (hx : x = ((j + 1 : Nat) : Int)) : ((m : Int) - intOf (.int .i64 x)).toNat < ((m : Int) - intOf (.int .i64 (j : Int))).toNat := by
  rw [hx]
  show ((m : Int) - ((j + 1 : Nat) : Int)).toNat < ((m : Int) - (j : Int)).toNat
  omega
set_option maxRecDepth 100000 in
set_option maxHeartbeats 4000000 in
theorem fields1_in (n : Nat) (hn : 1 ≤ n) (l Bk k : Nat) (hk : k < 6) (S : Nat → Prop) (w0 : World) (hT : TabE w0) (hS : ∀ j, S j → w0.heap.size ≤ j ∧ j ≠ Bk) (W : World) (h0W : ∀ j, j < w0.heap.size → W.heap[j]? = w0.heap[j]?) (hsW : w0.heap.size ≤ W.heap.size)
    (hbk : W.heap[Bk]? = some (.cells #[.int .i64 (k : Int)] 3 (0, 0))) (J Jx : List Nat → World → Prop) (hJ : ∀ pre, SteadyG (fun r => r = Bk) (J pre))
    (hY : ∀ pre x W1, pre ++ [x] <+: layN k → W.heap.size ≤ W1.heap.size → J pre W1 → YieldAt Fence.wide (n - 1) Tryd.prog l (encF k x) W1 fun e W' =>
      (e = .returned (.bool true) ∧ J (pre ++ [x]) W' ∧ Only W.heap.size S W1 W') ∨ (e = .returned (.bool false) ∧ Jx (pre ++ [x]) W')) (h0 : J [] W) :
    CallsIn Fence.wide n Tryd.prog 49 #[.func (.yield l) #[] #[], .pointer (some ⟨Bk, 0, none⟩)] W fun e W' => (∃ v, e = .returned v) ∧ (J (layN k) W' ∨ ∃ pre, pre <+: layN k ∧ Jx pre W') := by
  have c0 : W.cell? ⟨Bk, 0, none⟩ = some (.int .i64 (k : Int)) := cell_of_row _ Bk 0 _ _ _ hbk
  have hTW := hT.keep h0W hsW
  have HNM := Lib.hid (name_any (k : Int) (by unfold R64; omega) W hTW)
  rw [name_nat hk] at HNM
  obtain ⟨ra, rc, q0, q2, q3⟩ := hT.lay k hk
  have q1 : W.cell? ⟨1, k, none⟩ = some (.slice ra (layN k).length rc) := (World.cell?_of_block (a := ⟨1, k, none⟩) (h0W _ (by obtain ⟨_, _, _, e, _⟩ := hT.lays; exact (Array.getElem?_eq_some_iff.1 e).1))).trans q0
  clear q0
  have HLT := Lib.hid (show Bk < W.heap.size ∧ w0.heap.size ≤ W.heap.size from ⟨(Array.getElem?_eq_some_iff.1 hbk).1, hsW⟩)
  have HJ := Lib.hid hJ
  have HY := Lib.hid hY
  have HS := Lib.hid hS
  have HJ0 := Lib.hid h0
  have HBK := Lib.hid hbk
  have HT := Lib.hid hT
  have HW0 := Lib.hid h0W
  have HQ3 := Lib.hid (And.intro q2 q3)
  have hlen := lay_len (k := k)
  obtain ⟨m, hm⟩ : ∃ m, (layN k).length = m := ⟨_, rfl⟩
  rw [hm] at q1 hlen
  have HM := Lib.hid hm
  have HML := Lib.hid hlen
  by_cases hk0 : k = 0
  · subst hk0
    have hw : wordS 0 = ⟨#[]⟩ := rfl
    rw [hw] at HNM
    clear hJ hY hS h0 hbk hT h0W hsW hTW q2 q3 hw hk q1 hlen hm
    refine callsIn_of_wp Tryd.func49 rfl trivial ?_ rfl
    simp only [Tryd.ntmps49, List.size_toArray, List.length_cons, List.length_nil, Nat.reduceAdd, Nat.reduceSub, Array.replicate_succ, Array.replicate_zero, List.push_toArray, List.append_toArray, List.nil_append, List.cons_append]
    gi_wp2_with fail
    refine ⟨trivial, ?_⟩
    refine (callsIn_wide.2 HNM.out).mono ?_
    rintro e X ⟨rfl, rfl⟩
    gi_wp2
    refine bodyPost_ret (results_none rfl _ _ _) rfl ?_
    exact ⟨⟨_, rfl⟩, .inl HJ0.out⟩
  have hne := words_ne (k := k) ⟨by omega, hk⟩
  obtain ⟨ws, hws⟩ : ∃ ws, wordS k = ws := ⟨_, rfl⟩
  rw [hws] at HNM hne
  have n2 : ws.toList ≠ [] := fun e => hne (by
    rw [ByteArray.toList_eq] at e
    cases ws; simp_all)
  have n3 : ws.toList.isEmpty = false := by cases h : ws.toList with
    | nil => exact absurd h n2
    | cons => rfl
  have HKK := Lib.hid hk
  have k0 : (0 : Int) ≤ (k : Int) := by omega
  have k6 : (k : Int) < 6 := by omega
  clear hJ hY hS h0 hbk hT h0W hsW hTW q2 q3 hws hm hlen hne hk0
  refine callsIn_of_wp Tryd.func49 rfl trivial ?_ rfl
  simp only [Tryd.ntmps49, List.size_toArray, List.length_cons, List.length_nil, Nat.reduceAdd, Nat.reduceSub, Array.replicate_succ, Array.replicate_zero, List.push_toArray, List.append_toArray, List.nil_append, List.cons_append]
  gi_wp2_with fail
  refine ⟨trivial, ?_⟩
  refine (callsIn_wide.2 HNM.out).mono ?_
  rintro e X ⟨rfl, rfl⟩
  clear HNM
  gi_wp2
  gi_loopw [13] (fun i wr => ∃ j : Nat, j ≤ m ∧ i = .int .i64 (j : Int) ∧ J ((layN k).take j) wr ∧ Only W.heap.size S W wr) (fun i _ => ((m : Int) - intOf i).toNat)
  case atStart => exact ⟨0, Nat.zero_le _, rfl, HJ0.out, Only.refl _ _ _⟩
  case round =>
    obtain ⟨j, hj, rfl, hJj, hO⟩ := hrel
    clear c0 q1
    by_cases hlt : j < m
    · have i1 : (j : Int) < m := by omega
      obtain ⟨x, hx, hxb, hxc⟩ := HQ3.out.2 j (by rw [HM.out]; exact hlt)
      have hf10 := lay_lt HKK.out (show j < (layN k).length by rw [HM.out]; exact hlt)
      obtain ⟨f, hf⟩ : ∃ f, (layN k).getD j 0 = f := ⟨_, rfl⟩
      rw [hf] at hxc hf10
      have hpre : (layN k).take j ++ [f] = (layN k).take (j + 1) := by
        rw [List.take_succ_eq_append_getElem (by rw [HM.out]; exact hlt), ← hf]
        simp [List.getD, show j < (layN k).length by rw [HM.out]; exact hlt]
      have hTr : TabE wr := HT.out.keep (fun g hg => (hO.block g (by have := HLT.out; omega) (fun q => by have := (HS.out _ q).1; omega)).trans (HW0.out g hg)) (by have := HLT.out; have := hO.size; omega)
      have hbkr := (hO.block Bk HLT.out.1 (fun q => (HS.out _ q).2 rfl)).trans HBK.out
      have e0 : wr.cell? ⟨Bk, 0, none⟩ = some (.int .i64 (k : Int)) := cell_of_row _ _ 0 _ _ _ hbkr
      have e1 := hTr.size f hf10
      subst hx
      have e2 : wr.cell? (x.add j) = some (.int .i64 (f : Int)) := (World.cell?_of_block (a := x.add j) ((hO.block _ (by have := HLT.out; unfold Addr.add; split <;> (show x.block < _; omega)) (fun q => by have := (HS.out _ q).1; unfold Addr.add at this; split at this <;> (have h9 : w0.heap.size ≤ x.block := this; omega))).trans (HW0.out _ (by unfold Addr.add; split <;> exact hxb)))).trans hxc
      have f0 : (0 : Int) ≤ (f : Int) := by omega
      have f10 : (f : Int) < 10 := by omega
      have b0 : Bk < wr.heap.size := (Array.getElem?_eq_some_iff.1 hbkr).1
      have b3 : 3 < wr.heap.size := by obtain ⟨_, _, e⟩ := hTr.limits; exact (Array.getElem?_eq_some_iff.1 e).1
      by_cases hf9 : f = 9
      · subst hf9
        have HFD := Lib.hid (show fdV k 9 = (#[.int .i64 (9 : Int), .int .i64 (32 : Int), .int .u64 0, .bool false] : Array Value) from by unfold fdV; simp [sizeN, mostN, signB])
        replace e1 : wr.cell? ⟨2, 9, none⟩ = some (.int .i64 32) := e1
        replace e2 : wr.cell? (x.add j) = some (.int .i64 9) := e2
        clear f0 f10
        obtain ⟨W2, hW2⟩ : ∃ W2, W2 = wr.alloc (.cells (#[.int .i64 (9 : Int), .int .i64 (32 : Int), .int .u64 0, .bool false] : Array Value) 66) := ⟨_, rfl⟩
        have hJ2 : J ((layN k).take j) W2 := by rw [hW2]; exact (HJ.out _).alloc hJj _
        have hO2 : Only W.heap.size S W W2 := by rw [hW2]; exact hO.alloc hO.size _
        obtain ⟨fn, tmps, assign, body, hyy, hR⟩ := HY.out ((layN k).take j) 9 W2 (by rw [hpre]; exact List.take_prefix _ _) hO2.size hJ2
        unfold encF at hyy
        rw [HFD.out, hW2] at hyy
        rw [hpre, hW2] at hR
        have HR := Lib.hid hR
        have hsz2 := hO2.size
        rw [hW2] at hO2
        have HO2 := Lib.hid hO2
        have HLT2 := Lib.hid hlt
        clear hTr hJj hO hlt hW2 hj hbkr hf hxb hxc hJ2 hO2 hR hpre hsz2
        gi_wp2_with fail
        refine HR.out.mono ?_
        rintro e W6 (⟨rfl, hJ6, hO6⟩ | ⟨rfl, hJx6⟩)
        · have HREL := Lib.hid (show J ((layN k).take (j + 1)) W6 ∧ Only W.heap.size S W W6 from ⟨hJ6, HO2.out.trans hO6⟩)
          have wk : wrap64 ((j : Int) + 1) = ((j + 1 : Nat) : Int) := by have := HLT2.out; have := HML.out; unfold wrap64; omega
          have HWK := Lib.hid wk
          clear hJ6 hO6 hyy wk
          gi_wp2
          go_roundw
          case rel => exact ⟨j + 1, HLT2.out, by first | rfl | rw [HWK.out], HREL.out⟩
          case measure => first | exact meas_lt HLT2.out HWK.out | exact meas_lt HLT2.out rfl
        · have HJX := Lib.hid hJx6
          have HPR := Lib.hid (List.take_prefix (j + 1) (layN k))
          clear hJx6 hyy
          gi_wp2
          refine bodyPost_ret (results_none rfl _ _ _) rfl ?_
          exact ⟨⟨_, rfl⟩, .inr ⟨_, HPR.out, HJX.out⟩⟩
      have hf8 : f < 9 := by omega
      have e3 := hTr.limit f hf8
      have f9 : (f : Int) < 9 := by omega
      have g9 : ((f : Int) != 9) = true := by simp; omega
      by_cases hk4 : k = 4
      · have g4 : ((k : Int) == 4) = true := by simp; omega
        by_cases hf2 : f = 2
        · have g2 : ((f : Int) == 2) = true := by simp; omega
          have hsb : signB k f = true := by simp [signB, hk4, hf2]
          have HFD := Lib.hid (show fdV k f = (#[.int .i64 (f : Int), .int .i64 (sizeN f : Int), .int .u64 (mostN f), .bool true] : Array Value) from by unfold fdV; rw [hsb])
          clear hf9 hf8 hf10 hsb hk4 hf2
          obtain ⟨W2, hW2⟩ : ∃ W2, W2 = wr.alloc (.cells (#[.int .i64 (f : Int), .int .i64 (sizeN f : Int), .int .u64 (mostN f), .bool true] : Array Value) 66) := ⟨_, rfl⟩
          have hJ2 : J ((layN k).take j) W2 := by rw [hW2]; exact (HJ.out _).alloc hJj _
          have hO2 : Only W.heap.size S W W2 := by rw [hW2]; exact hO.alloc hO.size _
          obtain ⟨fn, tmps, assign, body, hyy, hR⟩ := HY.out ((layN k).take j) f W2 (by rw [hpre]; exact List.take_prefix _ _) hO2.size hJ2
          unfold encF at hyy
          rw [HFD.out, hW2] at hyy
          rw [hpre, hW2] at hR
          have HR := Lib.hid hR
          have hsz2 := hO2.size
          rw [hW2] at hO2
          have HO2 := Lib.hid hO2
          have HLT2 := Lib.hid hlt
          clear hTr hJj hO hlt hW2 hj hbkr hf hxb hxc hJ2 hO2 hR hpre hsz2
          gi_wp2_with fail
          refine HR.out.mono ?_
          rintro e W6 (⟨rfl, hJ6, hO6⟩ | ⟨rfl, hJx6⟩)
          · have HREL := Lib.hid (show J ((layN k).take (j + 1)) W6 ∧ Only W.heap.size S W W6 from ⟨hJ6, HO2.out.trans hO6⟩)
            have wk : wrap64 ((j : Int) + 1) = ((j + 1 : Nat) : Int) := by have := HLT2.out; have := HML.out; unfold wrap64; omega
            have HWK := Lib.hid wk
            clear hJ6 hO6 hyy wk
            gi_wp2
            go_roundw
            case rel => exact ⟨j + 1, HLT2.out, by first | rfl | rw [HWK.out], HREL.out⟩
            case measure => first | exact meas_lt HLT2.out HWK.out | exact meas_lt HLT2.out rfl
          · have HJX := Lib.hid hJx6
            have HPR := Lib.hid (List.take_prefix (j + 1) (layN k))
            clear hJx6 hyy
            gi_wp2
            refine bodyPost_ret (results_none rfl _ _ _) rfl ?_
            exact ⟨⟨_, rfl⟩, .inr ⟨_, HPR.out, HJX.out⟩⟩
        have g2 : ((f : Int) == 2) = false := by simp; omega
        by_cases hf5 : f = 5
        · have g5 : ((f : Int) == 5) = true := by simp; omega
          have hsb : signB k f = true := by simp [signB, hk4, hf5]
          have HFD := Lib.hid (show fdV k f = (#[.int .i64 (f : Int), .int .i64 (sizeN f : Int), .int .u64 (mostN f), .bool true] : Array Value) from by unfold fdV; rw [hsb])
          clear hf9 hf8 hf10 hsb hk4 hf2 hf5
          obtain ⟨W2, hW2⟩ : ∃ W2, W2 = wr.alloc (.cells (#[.int .i64 (f : Int), .int .i64 (sizeN f : Int), .int .u64 (mostN f), .bool true] : Array Value) 66) := ⟨_, rfl⟩
          have hJ2 : J ((layN k).take j) W2 := by rw [hW2]; exact (HJ.out _).alloc hJj _
          have hO2 : Only W.heap.size S W W2 := by rw [hW2]; exact hO.alloc hO.size _
          obtain ⟨fn, tmps, assign, body, hyy, hR⟩ := HY.out ((layN k).take j) f W2 (by rw [hpre]; exact List.take_prefix _ _) hO2.size hJ2
          unfold encF at hyy
          rw [HFD.out, hW2] at hyy
          rw [hpre, hW2] at hR
          have HR := Lib.hid hR
          have hsz2 := hO2.size
          rw [hW2] at hO2
          have HO2 := Lib.hid hO2
          have HLT2 := Lib.hid hlt
          clear hTr hJj hO hlt hW2 hj hbkr hf hxb hxc hJ2 hO2 hR hpre hsz2
          gi_wp2_with fail
          refine HR.out.mono ?_
          rintro e W6 (⟨rfl, hJ6, hO6⟩ | ⟨rfl, hJx6⟩)
          · have HREL := Lib.hid (show J ((layN k).take (j + 1)) W6 ∧ Only W.heap.size S W W6 from ⟨hJ6, HO2.out.trans hO6⟩)
            have wk : wrap64 ((j : Int) + 1) = ((j + 1 : Nat) : Int) := by have := HLT2.out; have := HML.out; unfold wrap64; omega
            have HWK := Lib.hid wk
            clear hJ6 hO6 hyy wk
            gi_wp2
            go_roundw
            case rel => exact ⟨j + 1, HLT2.out, by first | rfl | rw [HWK.out], HREL.out⟩
            case measure => first | exact meas_lt HLT2.out HWK.out | exact meas_lt HLT2.out rfl
          · have HJX := Lib.hid hJx6
            have HPR := Lib.hid (List.take_prefix (j + 1) (layN k))
            clear hJx6 hyy
            gi_wp2
            refine bodyPost_ret (results_none rfl _ _ _) rfl ?_
            exact ⟨⟨_, rfl⟩, .inr ⟨_, HPR.out, HJX.out⟩⟩
        have g5 : ((f : Int) == 5) = false := by simp; omega
        have hsb : signB k f = false := by simp [signB, hf2, hf5]
        have HFD := Lib.hid (show fdV k f = (#[.int .i64 (f : Int), .int .i64 (sizeN f : Int), .int .u64 (mostN f), .bool false] : Array Value) from by unfold fdV; rw [hsb])
        clear hf9 hf8 hf10 hsb hk4 hf2 hf5
        obtain ⟨W2, hW2⟩ : ∃ W2, W2 = wr.alloc (.cells (#[.int .i64 (f : Int), .int .i64 (sizeN f : Int), .int .u64 (mostN f), .bool false] : Array Value) 66) := ⟨_, rfl⟩
        have hJ2 : J ((layN k).take j) W2 := by rw [hW2]; exact (HJ.out _).alloc hJj _
        have hO2 : Only W.heap.size S W W2 := by rw [hW2]; exact hO.alloc hO.size _
        obtain ⟨fn, tmps, assign, body, hyy, hR⟩ := HY.out ((layN k).take j) f W2 (by rw [hpre]; exact List.take_prefix _ _) hO2.size hJ2
        unfold encF at hyy
        rw [HFD.out, hW2] at hyy
        rw [hpre, hW2] at hR
        have HR := Lib.hid hR
        have hsz2 := hO2.size
        rw [hW2] at hO2
        have HO2 := Lib.hid hO2
        have HLT2 := Lib.hid hlt
        clear hTr hJj hO hlt hW2 hj hbkr hf hxb hxc hJ2 hO2 hR hpre hsz2
        gi_wp2_with fail
        refine HR.out.mono ?_
        rintro e W6 (⟨rfl, hJ6, hO6⟩ | ⟨rfl, hJx6⟩)
        · have HREL := Lib.hid (show J ((layN k).take (j + 1)) W6 ∧ Only W.heap.size S W W6 from ⟨hJ6, HO2.out.trans hO6⟩)
          have wk : wrap64 ((j : Int) + 1) = ((j + 1 : Nat) : Int) := by have := HLT2.out; have := HML.out; unfold wrap64; omega
          have HWK := Lib.hid wk
          clear hJ6 hO6 hyy wk
          gi_wp2
          go_roundw
          case rel => exact ⟨j + 1, HLT2.out, by first | rfl | rw [HWK.out], HREL.out⟩
          case measure => first | exact meas_lt HLT2.out HWK.out | exact meas_lt HLT2.out rfl
        · have HJX := Lib.hid hJx6
          have HPR := Lib.hid (List.take_prefix (j + 1) (layN k))
          clear hJx6 hyy
          gi_wp2
          refine bodyPost_ret (results_none rfl _ _ _) rfl ?_
          exact ⟨⟨_, rfl⟩, .inr ⟨_, HPR.out, HJX.out⟩⟩
      have g4 : ((k : Int) == 4) = false := by simp; omega
      have hsb : signB k f = false := by simp [signB, hk4]
      have HFD := Lib.hid (show fdV k f = (#[.int .i64 (f : Int), .int .i64 (sizeN f : Int), .int .u64 (mostN f), .bool false] : Array Value) from by unfold fdV; rw [hsb])
      clear hf9 hf8 hf10 hsb hk4
      obtain ⟨W2, hW2⟩ : ∃ W2, W2 = wr.alloc (.cells (#[.int .i64 (f : Int), .int .i64 (sizeN f : Int), .int .u64 (mostN f), .bool false] : Array Value) 66) := ⟨_, rfl⟩
      have hJ2 : J ((layN k).take j) W2 := by rw [hW2]; exact (HJ.out _).alloc hJj _
      have hO2 : Only W.heap.size S W W2 := by rw [hW2]; exact hO.alloc hO.size _
      obtain ⟨fn, tmps, assign, body, hyy, hR⟩ := HY.out ((layN k).take j) f W2 (by rw [hpre]; exact List.take_prefix _ _) hO2.size hJ2
      unfold encF at hyy
      rw [HFD.out, hW2] at hyy
      rw [hpre, hW2] at hR
      have HR := Lib.hid hR
      have hsz2 := hO2.size
      rw [hW2] at hO2
      have HO2 := Lib.hid hO2
      have HLT2 := Lib.hid hlt
      clear hTr hJj hO hlt hW2 hj hbkr hf hxb hxc hJ2 hO2 hR hpre hsz2
      gi_wp2_with fail
      refine HR.out.mono ?_
      rintro e W6 (⟨rfl, hJ6, hO6⟩ | ⟨rfl, hJx6⟩)
      · have HREL := Lib.hid (show J ((layN k).take (j + 1)) W6 ∧ Only W.heap.size S W W6 from ⟨hJ6, HO2.out.trans hO6⟩)
        have wk : wrap64 ((j : Int) + 1) = ((j + 1 : Nat) : Int) := by have := HLT2.out; have := HML.out; unfold wrap64; omega
        have HWK := Lib.hid wk
        clear hJ6 hO6 hyy wk
        gi_wp2
        go_roundw
        case rel => exact ⟨j + 1, HLT2.out, by first | rfl | rw [HWK.out], HREL.out⟩
        case measure => first | exact meas_lt HLT2.out HWK.out | exact meas_lt HLT2.out rfl
      · have HJX := Lib.hid hJx6
        have HPR := Lib.hid (List.take_prefix (j + 1) (layN k))
        clear hJx6 hyy
        gi_wp2
        refine bodyPost_ret (results_none rfl _ _ _) rfl ?_
        exact ⟨⟨_, rfl⟩, .inr ⟨_, HPR.out, HJX.out⟩⟩
    · have hke : j = m := by omega
      subst hke
      have i1 : ¬ ((j : Int) < j) := by omega
      have hall : (layN k).take j = layN k := List.take_of_length_le (Nat.le_of_eq HM.out)
      rw [hall] at hJj
      have HX := Lib.hid hJj
      clear hJj hO hlt hj
      gi_wp2
      go_end0
      exact ⟨⟨_, rfl⟩, .inl HX.out⟩
theorem fields_seq (n : Nat) (hn : 1 ≤ n) (Bk k : Nat) (hk : k < 6) (S : Nat → Prop) (w0 : World) (hT : TabE w0) (hS : ∀ j, S j → w0.heap.size ≤ j ∧ j ≠ Bk) (w : World) (hb0 : Below w0.heap.size w0 w)
    (hbk : w.heap[Bk]? = some (.cells #[.int .i64 (k : Int)] 3 (0, 0))) : SeqBox n Tryd.prog 49 #[.pointer (some ⟨Bk, 0, none⟩)] (encF k) Bk S (layN k) w :=
  fun l J Jx W hb hJ hY h0 => fields1_in n hn l Bk k hk S w0 hT hS W (fun j hj => (hb.block j (by have := hb0.size; omega)).trans (hb0.block j hj)) (Nat.le_trans hb0.size hb.size) ((hb.block Bk (Array.getElem?_eq_some_iff.1 hbk).1).trans hbk) J Jx hJ hY h0
end Go.Proofs.YtmeamdfmcpkofaaDoor
