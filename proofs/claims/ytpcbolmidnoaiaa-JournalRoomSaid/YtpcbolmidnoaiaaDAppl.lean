/- The writes that are applied: the iterator. -/
import Derived.Test.YtpcbolmidnoaiaaDCont
import Derived.Test.YtpcbolmidnoaiaaDLeft
set_option linter.unusedVariables false
set_option maxRecDepth 100000
set_option linter.unusedSimpArgs false
namespace Go.Proofs.Ytpcbolmidnoaiaa
open Go.RowKit
attribute [local go_sem] Oper.semAt_some
theorem applied_app (len : Nat → Nat) : ∀ (a b : List (Int × List Int)) (i : Nat), applied len i (a ++ b) = applied len i a ++ applied len (i + a.length) b
  | [], b, i => by simp [applied]
  | x :: a, b, i => by
    rw [List.cons_append, applied, applied, applied_app len a b (i + 1), List.length_cons, show i + 1 + a.length = i + (a.length + 1) by omega]
    split
    · rfl
    · rfl
theorem applied_one (len : Nat → Nat) (c : List (Int × List Int)) (k : Nat) (hk : k < c.length) : applied len 0 (c.take (k + 1)) = applied len 0 (c.take k) ++ (if len k = 0 then [] else [(cAt c k, len k)]) := by
  have hs : cAt c k = c[k] := by unfold cAt; simp [List.getD, hk]
  rw [List.take_succ_eq_append_getElem hk, applied_app, List.length_take, Nat.min_eq_left (by omega), Nat.zero_add, hs]
  congr 1
theorem applied_pre (len : Nat → Nat) (c : List (Int × List Int)) (k : Nat) : applied len 0 (c.take k) <+: applied len 0 c := by
  have := applied_app len (c.take k) (c.drop k) 0
  rw [List.take_append_drop] at this
  rw [this]
  exact List.prefix_append _ _
def encA (y : (Int × List Int) × Nat) : Array Value := #[wrA y.1.1 y.1.2, .int .i64 (y.2 : Int)]
theorem grown_ofD {X Y : World} (h : Below X.heap.size X Y) (row : Option Nat) : X.grownBy Y row := ⟨h.os, h.tape, h.output, h.size, fun k hk _ => h.block k hk⟩
theorem range_all {T : TypeId} {W : World} {b : Nat} {x : Int × List Int} (h : At T W b (wcells x).toArray) : W.rangeAt b 0 (wcells x) := fun j v hv => by
  rw [Nat.zero_add, h.cell]; simpa using hv
theorem appliedOf_any (a : Option Addr) (l c : Nat) (g : Nat) (caps : Array Value) (w : World) : Calls Try.prog 61 #[.slice a l c, .func (.func g) #[] caps] w fun e w' => e = .returned (.func (.func 72) #[] #[.pointer (some ⟨w.heap.size, 0, none⟩), .pointer (some ⟨w.heap.size + 1, 0, none⟩)]) ∧ w' = (w.alloc (.cells #[.slice a l c] 51)).alloc (.cells #[.func (.func g) #[] caps] 78) := by
  go_enter Try.func61, Try.ntmps61
  go_wp2
  go_ret
  exact ⟨rfl, rfl⟩

set_option maxRecDepth 100000 in
set_option maxHeartbeats 4000000 in
theorem appl1_F_in (n : Nat) (hn : 1 ≤ n) (l Bc Bf Bs : Nat) (v : Value) (c : List (Int × List Int)) (hcl : c.length ≤ 256) (hl : ∀ x ∈ c, x.2.length = 128) (len : Nat → Nat) (hlen : ∀ k, len k ≤ 128) (S : Nat → Prop) (hS : ∀ j, S j → j ≠ Bc ∧ j ≠ Bf ∧ v.ownBlock ≠ some j) (W : World)
    (hbc : At 51 W Bc #[v]) (hbf : At 78 W Bf #[.func (.func 69) #[] #[]]) (hC : W.ownsRow 0 96 129 v c.length (c.map wcells).flatten)
    (hF : ∀ X, Only W.heap.size S W X → ∀ k : Nat, k < c.length → Calls Try.prog 69 #[.int .i64 (k : Int)] X fun e X' => e = .returned (.int .i64 (len k : Int)) ∧ Below X.heap.size X X')
    (J Jx : List ((Int × List Int) × Nat) → World → Prop) (hJ : ∀ pre, SteadyG (fun r => r = Bs) (J pre))
    (hY : ∀ pre x W1, pre ++ [x] <+: applied len 0 c → W.heap.size ≤ W1.heap.size → J pre W1 → YieldAt Fence.wide (n - 1) Try.prog l (encA x) W1 fun e W' =>
      (e = .returned (.bool true) ∧ J (pre ++ [x]) W' ∧ Only W.heap.size S W1 W') ∨ (e = .returned (.bool false) ∧ Jx (pre ++ [x]) W')) (h0 : J [] W) :
    CallsIn Fence.wide n Try.prog 72 #[.func (.yield l) #[] #[], .pointer (some ⟨Bc, 0, none⟩), .pointer (some ⟨Bf, 0, none⟩)] W fun e W' => (∃ v, e = .returned v) ∧ (J (applied len 0 c) W' ∨ ∃ pre, pre <+: applied len 0 c ∧ Jx pre W') := by
  have hzw := (zero_of_info wr_zero).1
  obtain ⟨a0, c0, hv0⟩ : ∃ a0 c0, v = .slice a0 c.length c0 := by
    rcases hC.2 with ⟨e, e2⟩ | ⟨g, cap, cur, e, _⟩
    · exact ⟨none, 0, by rw [e, e2]⟩
    · exact ⟨_, _, e⟩
  subst hv0
  have c0' : W.cell? ⟨Bc, 0, none⟩ = some (.slice a0 c.length c0) := hbc.cell 0
  have HLT := Lib.hid (And.intro hbc.lt hbf.lt)
  have HY := Lib.hid hY
  have HS := Lib.hid hS
  have HJ := Lib.hid hJ
  have HJ0 := Lib.hid h0
  have HBC := Lib.hid hbc
  have HBF := Lib.hid hbf
  have HC := Lib.hid hC
  have HF := Lib.hid hF
  have HL := Lib.hid (And.intro hcl (And.intro hl hlen))
  have HGL0 := Lib.hid (show ∀ g cap, Value.slice a0 c.length c0 = .slice (some ⟨g, 0, none⟩) c.length cap → g < W.heap.size from fun g cap e => (hC.lt g (by rw [e]; rfl)).2)
  clear hY hS h0 hbc hbf hC hcl hl hF hJ hlen
  refine callsIn_of_wp_marks Try.func72 rfl trivial ?_ rfl
  simp only [Try.ntmps72, List.size_toArray, List.length_cons, List.length_nil, Nat.reduceAdd, Nat.reduceSub, Array.replicate_succ, Array.replicate_zero, List.push_toArray, List.append_toArray, List.nil_append, List.cons_append]
  refine wpIn_scope_straight (wpIn_seq ?_)
  refine wpIn_label ?_
  gi_wp2
  gi_loopw [9] (fun i wr => ∃ k : Nat, k ≤ c.length ∧ i = .int .i64 (k : Int) ∧ J (applied len 0 (c.take k)) wr ∧ Only W.heap.size S W wr) (fun i _ => (c.length - intOf i).toNat)
  case atStart => exact ⟨0, Nat.zero_le _, rfl, HJ0.out, Only.refl _ _ _⟩
  case round =>
    obtain ⟨k, hk, rfl, hJk, hO⟩ := hrel
    clear c0'
    by_cases hlt : k < c.length
    · have i1 : (k : Int) < c.length := by omega
      have wk : wrap64 ((k : Int) + 1) = ((k + 1 : Nat) : Int) := by have := HL.out.1; unfold wrap64; omega
      have hC : wr.ownsRow 0 96 129 (.slice a0 c.length c0) c.length (c.map wcells).flatten := by
        have h := HC.out
        refine ⟨h.1, ?_⟩
        rcases h.2 with e | ⟨g', cap', cur, e, hg, hh, rr⟩
        · exact .inl e
        · exact .inr ⟨g', cap', cur, e, hg, (hO.block g' (Array.getElem?_eq_some_iff.1 hh).1 (fun q => (HS.out _ q).2.2 (by rw [e]; rfl))).trans hh, rr⟩
      obtain ⟨g, cap, hv, hrg, hle⟩ := cache_range hC HL.out.2.1 k hlt
      cases hv
      have hrow := applied_one len c k hlt
      have hpre := applied_pre len c (k + 1)
      have hbf : At 78 wr Bf _ := (hO.block Bf HLT.out.2 (fun q => (HS.out _ q).2.1 rfl)).trans HBF.out
      obtain ⟨x, hx⟩ : ∃ x, cAt c k = x := ⟨_, rfl⟩
      rw [hx] at hrg hle hrow
      obtain ⟨n0, L0⟩ := x
      obtain ⟨W2, hW2⟩ : ∃ W2, W2 = (wr.alloc (.cells (#[.int .i64 0] ++ nums .u8 128 fun _ => 0) 96)).setRow wr.heap.size (wcells (n0, L0)).toArray := ⟨_, rfl⟩
      have hb2 : Below wr.heap.size wr W2 := by rw [hW2]; exact below_row ((Below.refl _ wr).alloc (Nat.le_refl _) _) (Nat.le_refl _) _
      have HA := Lib.hid (At.new 96 wr (#[.int .i64 0] ++ nums .u8 128 fun _ => 0))
      have ha2 : At 96 W2 wr.heap.size (wcells (n0, L0)).toArray := by rw [hW2]; exact HA.out.row
      have hJ2 : J (applied len 0 (c.take k)) W2 := HJ.out _ wr W2 none hJk (grown_ofD hb2 none) (fun r e => by cases e)
      have hO2 : Only W.heap.size S W W2 := hO.trans (Only.of hb2 hO.size)
      have e2 : W2.cell? ⟨Bf, 0, none⟩ = some (.func (.func 69) #[] #[]) := (hbf.below hbf.lt hb2).cell 0
      have HG := Lib.hid (show ∀ Z : World, Z = wr → (loadVar 96 ⟨g, k * 129, none⟩).run Try.prog Z = .ok (wrA n0 L0) Z from fun Z e => by subst e; exact load_wr hrg hle)
      have HLE := Lib.hid hle
      have HCL := Lib.hid (HF.out W2 hO2 k hlt)
      have HA2 := Lib.hid ha2
      have HJ2 := Lib.hid hJ2
      have HO2 := Lib.hid hO2
      have HROW := Lib.hid hrow
      have HPRE := Lib.hid hpre
      have HK := Lib.hid hlt
      have HW2 := Lib.hid hW2
      rw [hW2] at e2
      clear hC hrg hle hrow hpre hbf hx hb2 ha2 hJ2 hO2 hJk hO hlt hk
      gi_wp2_with (first | (refine wpListIn_val (fun _ => trivial) rfl (by intro c hc; cases hc) (exec_load rfl rfl (HG.out _ rfl)) ?_; clear HG) | (refine store_wr_in (fun _ => trivial) HA.out (by simp [nums_size]) HLE.out rfl rfl rfl rfl ?_))
      refine ⟨trivial, ?_⟩
      rw [← HW2.out]
      refine (callsIn_wide.2 HCL.out).mono ?_
      rintro e W3 ⟨rfl, hB3⟩
      have hJ3 : J (applied len 0 (c.take k)) W3 := HJ.out _ W2 W3 none HJ2.out (grown_ofD hB3 none) (fun r e => by cases e)
      have hO3 : Only W.heap.size S W W3 := HO2.out.trans (Only.of hB3 HO2.out.size)
      have ha3 : At 96 W3 wr.heap.size (wcells (n0, L0)).toArray := HA2.out.below HA2.out.lt hB3
      by_cases h0 : len k = 0
      · have hr := HROW.out
        rw [if_pos h0, List.append_nil] at hr
        rw [← hr] at hJ3
        have e0 : (((len k : Nat) : Int) == 0) = true := by rw [h0]; rfl
        have HREL := Lib.hid (And.intro hJ3 hO3)
        clear hr hJ3 hO3 ha3 hB3 h0 e2
        gi_wp2
        go_roundw
        case rel => exact ⟨k + 1, HK.out, by first | rfl | rw [wk], HREL.out⟩
        case measure =>
          have hk2 := HK.out
          first
            | (show ((c.length : Int) - intOf (.int .i64 (wrap64 ((k : Int) + 1)))).toNat < ((c.length : Int) - intOf (.int .i64 (k : Int))).toNat; rw [wk])
            | (show ((c.length : Int) - intOf (.int .i64 ((k + 1 : Nat) : Int))).toNat < ((c.length : Int) - intOf (.int .i64 (k : Int))).toNat)
            | (show ((c.length : Int) - intOf (.int .i64 ((k : Int) + 1))).toNat < ((c.length : Int) - intOf (.int .i64 (k : Int))).toNat)
          first
            | (show ((c.length : Int) - ((k + 1 : Nat) : Int)).toNat < ((c.length : Int) - ((k : Nat) : Int)).toNat; omega)
            | (show ((c.length : Int) - ((k : Int) + 1)).toNat < ((c.length : Int) - ((k : Nat) : Int)).toNat; omega)
      · have hr := HROW.out
        rw [if_neg h0] at hr
        have hp := HPRE.out
        rw [hr] at hp
        have e0 : (((len k : Nat) : Int) == 0) = false := by simpa using h0
        obtain ⟨fn, tmps, assign, body, hyy, hR⟩ := HY.out _ _ W3 hp hO3.size hJ3
        rw [← hr] at hR
        unfold encA at hyy
        have HR := Lib.hid hR
        have HO3 := Lib.hid hO3
        have HG3 := Lib.hid (show ∀ Z : World, Z = W3 → (loadVar 96 ⟨wr.heap.size, 0, none⟩).run Try.prog Z = .ok (wrA n0 L0) Z from fun Z e => by subst e; exact load_wr (range_all ha3) HLE.out)
        clear hr hp hJ3 hO3 ha3 hB3 h0 hR e2
        gi_wp2_with (refine wpListIn_val (fun _ => trivial) rfl (by intro c hc; cases hc) (exec_load rfl rfl (HG3.out _ rfl)) ?_)
        refine HR.out.mono ?_
        rintro e W6 (⟨rfl, hJ6, hO6⟩ | ⟨rfl, hJx6⟩)
        · have HREL := Lib.hid (And.intro hJ6 (HO3.out.trans hO6))
          clear hJ6 hO6 hyy
          gi_wp2
          go_roundw
          case rel => exact ⟨k + 1, HK.out, by first | rfl | rw [wk], HREL.out⟩
          case measure =>
            have hk2 := HK.out
            first
              | (show ((c.length : Int) - intOf (.int .i64 (wrap64 ((k : Int) + 1)))).toNat < ((c.length : Int) - intOf (.int .i64 (k : Int))).toNat; rw [wk])
              | (show ((c.length : Int) - intOf (.int .i64 ((k + 1 : Nat) : Int))).toNat < ((c.length : Int) - intOf (.int .i64 (k : Int))).toNat)
              | (show ((c.length : Int) - intOf (.int .i64 ((k : Int) + 1))).toNat < ((c.length : Int) - intOf (.int .i64 (k : Int))).toNat)
            first
              | (show ((c.length : Int) - ((k + 1 : Nat) : Int)).toNat < ((c.length : Int) - ((k : Nat) : Int)).toNat; omega)
              | (show ((c.length : Int) - ((k : Int) + 1)).toNat < ((c.length : Int) - ((k : Nat) : Int)).toNat; omega)
        · have HJX := Lib.hid hJx6
          clear hJx6 hyy
          gi_wp2
          first
            | (rw [Exit.noGoto_ret]; refine ⟨_, results_none rfl _ _ _, ⟨_, rfl⟩, .inr ⟨_, HPRE.out, HJX.out⟩⟩)
            | (refine bodyPost_ret (results_none rfl _ _ _) rfl ?_; exact ⟨⟨_, rfl⟩, .inr ⟨_, HPRE.out, HJX.out⟩⟩)
    · have hke : k = c.length := by omega
      subst hke
      have i1 : ¬ ((c.length : Int) < c.length) := by omega
      rw [List.take_length] at hJk
      have HX := Lib.hid hJk
      clear hJk hO hlt hk
      gi_wp2
      first
        | (go_end0; exact ⟨⟨_, rfl⟩, .inl HX.out⟩)
        | exact ⟨_, results_none rfl _ _ _, ⟨_, rfl⟩, .inl HX.out⟩
theorem appl_F_seq (n : Nat) (hn : 1 ≤ n) (Bc Bf Bs : Nat) (v : Value) (c : List (Int × List Int)) (hcl : c.length ≤ 256) (hl : ∀ x ∈ c, x.2.length = 128) (len : Nat → Nat) (hlen : ∀ k, len k ≤ 128) (S : Nat → Prop) (hS : ∀ j, S j → j ≠ Bc ∧ j ≠ Bf ∧ v.ownBlock ≠ some j) (w : World)
    (hbc : At 51 w Bc #[v]) (hbf : At 78 w Bf #[.func (.func 69) #[] #[]]) (hC : w.ownsRow 0 96 129 v c.length (c.map wcells).flatten)
    (hF : ∀ X, Only w.heap.size S w X → ∀ k : Nat, k < c.length → Calls Try.prog 69 #[.int .i64 (k : Int)] X fun e X' => e = .returned (.int .i64 (len k : Int)) ∧ Below X.heap.size X X') :
    SeqBox n Try.prog 72 #[.pointer (some ⟨Bc, 0, none⟩), .pointer (some ⟨Bf, 0, none⟩)] encA Bs S (applied len 0 c) w := by
  intro l J Jx W hW hJ hY h0
  exact appl1_F_in n hn l Bc Bf Bs v c hcl hl len hlen S hS W (hbc.below hbc.lt hW) (hbf.below hbf.lt hW) (ownsRow_upd hC (Upd.of hW (fun _ => False)) (fun _ _ q => q)) (fun X hX k hk => hF X ((Only.of hW (Nat.le_refl _)).trans (hX.mono hW.size)) k hk) J Jx hJ hY h0

set_option maxRecDepth 100000 in
set_option maxHeartbeats 4000000 in
theorem appl1_R_in (n : Nat) (hn : 1 ≤ n) (l Bc Bf Bs : Nat) (v : Value) (c : List (Int × List Int)) (hcl : c.length ≤ 256) (hl : ∀ x ∈ c, x.2.length = 128) (cb : Nat) (len : Nat → Nat) (hlen : ∀ k, len k ≤ 128) (S : Nat → Prop) (hS : ∀ j, S j → j ≠ Bc ∧ j ≠ Bf ∧ v.ownBlock ≠ some j) (W : World)
    (hbc : At 51 W Bc #[v]) (hbf : At 78 W Bf #[.func (.func 40) #[] #[.pointer (some ⟨cb, 0, none⟩)]]) (hC : W.ownsRow 0 96 129 v c.length (c.map wcells).flatten)
    (hF : ∀ X, Only W.heap.size S W X → ∀ k : Nat, k < c.length → Calls Try.prog 40 #[.int .i64 (k : Int), .pointer (some ⟨cb, 0, none⟩)] X fun e X' => e = .returned (.int .i64 (len k : Int)) ∧ Below X.heap.size X X')
    (J Jx : List ((Int × List Int) × Nat) → World → Prop) (hJ : ∀ pre, SteadyG (fun r => r = Bs) (J pre))
    (hY : ∀ pre x W1, pre ++ [x] <+: applied len 0 c → W.heap.size ≤ W1.heap.size → J pre W1 → YieldAt Fence.wide (n - 1) Try.prog l (encA x) W1 fun e W' =>
      (e = .returned (.bool true) ∧ J (pre ++ [x]) W' ∧ Only W.heap.size S W1 W') ∨ (e = .returned (.bool false) ∧ Jx (pre ++ [x]) W')) (h0 : J [] W) :
    CallsIn Fence.wide n Try.prog 72 #[.func (.yield l) #[] #[], .pointer (some ⟨Bc, 0, none⟩), .pointer (some ⟨Bf, 0, none⟩)] W fun e W' => (∃ v, e = .returned v) ∧ (J (applied len 0 c) W' ∨ ∃ pre, pre <+: applied len 0 c ∧ Jx pre W') := by
  have hzw := (zero_of_info wr_zero).1
  obtain ⟨a0, c0, hv0⟩ : ∃ a0 c0, v = .slice a0 c.length c0 := by
    rcases hC.2 with ⟨e, e2⟩ | ⟨g, cap, cur, e, _⟩
    · exact ⟨none, 0, by rw [e, e2]⟩
    · exact ⟨_, _, e⟩
  subst hv0
  have c0' : W.cell? ⟨Bc, 0, none⟩ = some (.slice a0 c.length c0) := hbc.cell 0
  have HLT := Lib.hid (And.intro hbc.lt hbf.lt)
  have HY := Lib.hid hY
  have HS := Lib.hid hS
  have HJ := Lib.hid hJ
  have HJ0 := Lib.hid h0
  have HBC := Lib.hid hbc
  have HBF := Lib.hid hbf
  have HC := Lib.hid hC
  have HF := Lib.hid hF
  have HL := Lib.hid (And.intro hcl (And.intro hl hlen))
  have HGL0 := Lib.hid (show ∀ g cap, Value.slice a0 c.length c0 = .slice (some ⟨g, 0, none⟩) c.length cap → g < W.heap.size from fun g cap e => (hC.lt g (by rw [e]; rfl)).2)
  clear hY hS h0 hbc hbf hC hcl hl hF hJ hlen
  refine callsIn_of_wp_marks Try.func72 rfl trivial ?_ rfl
  simp only [Try.ntmps72, List.size_toArray, List.length_cons, List.length_nil, Nat.reduceAdd, Nat.reduceSub, Array.replicate_succ, Array.replicate_zero, List.push_toArray, List.append_toArray, List.nil_append, List.cons_append]
  refine wpIn_scope_straight (wpIn_seq ?_)
  refine wpIn_label ?_
  gi_wp2
  gi_loopw [9] (fun i wr => ∃ k : Nat, k ≤ c.length ∧ i = .int .i64 (k : Int) ∧ J (applied len 0 (c.take k)) wr ∧ Only W.heap.size S W wr) (fun i _ => (c.length - intOf i).toNat)
  case atStart => exact ⟨0, Nat.zero_le _, rfl, HJ0.out, Only.refl _ _ _⟩
  case round =>
    obtain ⟨k, hk, rfl, hJk, hO⟩ := hrel
    clear c0'
    by_cases hlt : k < c.length
    · have i1 : (k : Int) < c.length := by omega
      have wk : wrap64 ((k : Int) + 1) = ((k + 1 : Nat) : Int) := by have := HL.out.1; unfold wrap64; omega
      have hC : wr.ownsRow 0 96 129 (.slice a0 c.length c0) c.length (c.map wcells).flatten := by
        have h := HC.out
        refine ⟨h.1, ?_⟩
        rcases h.2 with e | ⟨g', cap', cur, e, hg, hh, rr⟩
        · exact .inl e
        · exact .inr ⟨g', cap', cur, e, hg, (hO.block g' (Array.getElem?_eq_some_iff.1 hh).1 (fun q => (HS.out _ q).2.2 (by rw [e]; rfl))).trans hh, rr⟩
      obtain ⟨g, cap, hv, hrg, hle⟩ := cache_range hC HL.out.2.1 k hlt
      cases hv
      have hrow := applied_one len c k hlt
      have hpre := applied_pre len c (k + 1)
      have hbf : At 78 wr Bf _ := (hO.block Bf HLT.out.2 (fun q => (HS.out _ q).2.1 rfl)).trans HBF.out
      obtain ⟨x, hx⟩ : ∃ x, cAt c k = x := ⟨_, rfl⟩
      rw [hx] at hrg hle hrow
      obtain ⟨n0, L0⟩ := x
      obtain ⟨W2, hW2⟩ : ∃ W2, W2 = (wr.alloc (.cells (#[.int .i64 0] ++ nums .u8 128 fun _ => 0) 96)).setRow wr.heap.size (wcells (n0, L0)).toArray := ⟨_, rfl⟩
      have hb2 : Below wr.heap.size wr W2 := by rw [hW2]; exact below_row ((Below.refl _ wr).alloc (Nat.le_refl _) _) (Nat.le_refl _) _
      have HA := Lib.hid (At.new 96 wr (#[.int .i64 0] ++ nums .u8 128 fun _ => 0))
      have ha2 : At 96 W2 wr.heap.size (wcells (n0, L0)).toArray := by rw [hW2]; exact HA.out.row
      have hJ2 : J (applied len 0 (c.take k)) W2 := HJ.out _ wr W2 none hJk (grown_ofD hb2 none) (fun r e => by cases e)
      have hO2 : Only W.heap.size S W W2 := hO.trans (Only.of hb2 hO.size)
      have e2 : W2.cell? ⟨Bf, 0, none⟩ = some (.func (.func 40) #[] #[.pointer (some ⟨cb, 0, none⟩)]) := (hbf.below hbf.lt hb2).cell 0
      have HG := Lib.hid (show ∀ Z : World, Z = wr → (loadVar 96 ⟨g, k * 129, none⟩).run Try.prog Z = .ok (wrA n0 L0) Z from fun Z e => by subst e; exact load_wr hrg hle)
      have HLE := Lib.hid hle
      have HCL := Lib.hid (HF.out W2 hO2 k hlt)
      have HA2 := Lib.hid ha2
      have HJ2 := Lib.hid hJ2
      have HO2 := Lib.hid hO2
      have HROW := Lib.hid hrow
      have HPRE := Lib.hid hpre
      have HK := Lib.hid hlt
      have HW2 := Lib.hid hW2
      rw [hW2] at e2
      clear hC hrg hle hrow hpre hbf hx hb2 ha2 hJ2 hO2 hJk hO hlt hk
      gi_wp2_with (first | (refine wpListIn_val (fun _ => trivial) rfl (by intro c hc; cases hc) (exec_load rfl rfl (HG.out _ rfl)) ?_; clear HG) | (refine store_wr_in (fun _ => trivial) HA.out (by simp [nums_size]) HLE.out rfl rfl rfl rfl ?_))
      refine ⟨trivial, ?_⟩
      rw [← HW2.out]
      refine (callsIn_wide.2 HCL.out).mono ?_
      rintro e W3 ⟨rfl, hB3⟩
      have hJ3 : J (applied len 0 (c.take k)) W3 := HJ.out _ W2 W3 none HJ2.out (grown_ofD hB3 none) (fun r e => by cases e)
      have hO3 : Only W.heap.size S W W3 := HO2.out.trans (Only.of hB3 HO2.out.size)
      have ha3 : At 96 W3 wr.heap.size (wcells (n0, L0)).toArray := HA2.out.below HA2.out.lt hB3
      by_cases h0 : len k = 0
      · have hr := HROW.out
        rw [if_pos h0, List.append_nil] at hr
        rw [← hr] at hJ3
        have e0 : (((len k : Nat) : Int) == 0) = true := by rw [h0]; rfl
        have HREL := Lib.hid (And.intro hJ3 hO3)
        clear hr hJ3 hO3 ha3 hB3 h0 e2
        gi_wp2
        go_roundw
        case rel => exact ⟨k + 1, HK.out, by first | rfl | rw [wk], HREL.out⟩
        case measure =>
          have hk2 := HK.out
          first
            | (show ((c.length : Int) - intOf (.int .i64 (wrap64 ((k : Int) + 1)))).toNat < ((c.length : Int) - intOf (.int .i64 (k : Int))).toNat; rw [wk])
            | (show ((c.length : Int) - intOf (.int .i64 ((k + 1 : Nat) : Int))).toNat < ((c.length : Int) - intOf (.int .i64 (k : Int))).toNat)
            | (show ((c.length : Int) - intOf (.int .i64 ((k : Int) + 1))).toNat < ((c.length : Int) - intOf (.int .i64 (k : Int))).toNat)
          first
            | (show ((c.length : Int) - ((k + 1 : Nat) : Int)).toNat < ((c.length : Int) - ((k : Nat) : Int)).toNat; omega)
            | (show ((c.length : Int) - ((k : Int) + 1)).toNat < ((c.length : Int) - ((k : Nat) : Int)).toNat; omega)
      · have hr := HROW.out
        rw [if_neg h0] at hr
        have hp := HPRE.out
        rw [hr] at hp
        have e0 : (((len k : Nat) : Int) == 0) = false := by simpa using h0
        obtain ⟨fn, tmps, assign, body, hyy, hR⟩ := HY.out _ _ W3 hp hO3.size hJ3
        rw [← hr] at hR
        unfold encA at hyy
        have HR := Lib.hid hR
        have HO3 := Lib.hid hO3
        have HG3 := Lib.hid (show ∀ Z : World, Z = W3 → (loadVar 96 ⟨wr.heap.size, 0, none⟩).run Try.prog Z = .ok (wrA n0 L0) Z from fun Z e => by subst e; exact load_wr (range_all ha3) HLE.out)
        clear hr hp hJ3 hO3 ha3 hB3 h0 hR e2
        gi_wp2_with (refine wpListIn_val (fun _ => trivial) rfl (by intro c hc; cases hc) (exec_load rfl rfl (HG3.out _ rfl)) ?_)
        refine HR.out.mono ?_
        rintro e W6 (⟨rfl, hJ6, hO6⟩ | ⟨rfl, hJx6⟩)
        · have HREL := Lib.hid (And.intro hJ6 (HO3.out.trans hO6))
          clear hJ6 hO6 hyy
          gi_wp2
          go_roundw
          case rel => exact ⟨k + 1, HK.out, by first | rfl | rw [wk], HREL.out⟩
          case measure =>
            have hk2 := HK.out
            first
              | (show ((c.length : Int) - intOf (.int .i64 (wrap64 ((k : Int) + 1)))).toNat < ((c.length : Int) - intOf (.int .i64 (k : Int))).toNat; rw [wk])
              | (show ((c.length : Int) - intOf (.int .i64 ((k + 1 : Nat) : Int))).toNat < ((c.length : Int) - intOf (.int .i64 (k : Int))).toNat)
              | (show ((c.length : Int) - intOf (.int .i64 ((k : Int) + 1))).toNat < ((c.length : Int) - intOf (.int .i64 (k : Int))).toNat)
            first
              | (show ((c.length : Int) - ((k + 1 : Nat) : Int)).toNat < ((c.length : Int) - ((k : Nat) : Int)).toNat; omega)
              | (show ((c.length : Int) - ((k : Int) + 1)).toNat < ((c.length : Int) - ((k : Nat) : Int)).toNat; omega)
        · have HJX := Lib.hid hJx6
          clear hJx6 hyy
          gi_wp2
          first
            | (rw [Exit.noGoto_ret]; refine ⟨_, results_none rfl _ _ _, ⟨_, rfl⟩, .inr ⟨_, HPRE.out, HJX.out⟩⟩)
            | (refine bodyPost_ret (results_none rfl _ _ _) rfl ?_; exact ⟨⟨_, rfl⟩, .inr ⟨_, HPRE.out, HJX.out⟩⟩)
    · have hke : k = c.length := by omega
      subst hke
      have i1 : ¬ ((c.length : Int) < c.length) := by omega
      rw [List.take_length] at hJk
      have HX := Lib.hid hJk
      clear hJk hO hlt hk
      gi_wp2
      first
        | (go_end0; exact ⟨⟨_, rfl⟩, .inl HX.out⟩)
        | exact ⟨_, results_none rfl _ _ _, ⟨_, rfl⟩, .inl HX.out⟩
theorem appl_R_seq (n : Nat) (hn : 1 ≤ n) (Bc Bf Bs : Nat) (v : Value) (c : List (Int × List Int)) (hcl : c.length ≤ 256) (hl : ∀ x ∈ c, x.2.length = 128) (cb : Nat) (len : Nat → Nat) (hlen : ∀ k, len k ≤ 128) (S : Nat → Prop) (hS : ∀ j, S j → j ≠ Bc ∧ j ≠ Bf ∧ v.ownBlock ≠ some j) (w : World)
    (hbc : At 51 w Bc #[v]) (hbf : At 78 w Bf #[.func (.func 40) #[] #[.pointer (some ⟨cb, 0, none⟩)]]) (hC : w.ownsRow 0 96 129 v c.length (c.map wcells).flatten)
    (hF : ∀ X, Only w.heap.size S w X → ∀ k : Nat, k < c.length → Calls Try.prog 40 #[.int .i64 (k : Int), .pointer (some ⟨cb, 0, none⟩)] X fun e X' => e = .returned (.int .i64 (len k : Int)) ∧ Below X.heap.size X X') :
    SeqBox n Try.prog 72 #[.pointer (some ⟨Bc, 0, none⟩), .pointer (some ⟨Bf, 0, none⟩)] encA Bs S (applied len 0 c) w := by
  intro l J Jx W hW hJ hY h0
  exact appl1_R_in n hn l Bc Bf Bs v c hcl hl cb len hlen S hS W (hbc.below hbc.lt hW) (hbf.below hbf.lt hW) (ownsRow_upd hC (Upd.of hW (fun _ => False)) (fun _ _ q => q)) (fun X hX k hk => hF X ((Only.of hW (Nat.le_refl _)).trans (hX.mono hW.size)) k hk) J Jx hJ hY h0
end Go.Proofs.Ytpcbolmidnoaiaa
