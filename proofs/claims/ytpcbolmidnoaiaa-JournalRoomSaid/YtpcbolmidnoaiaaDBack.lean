/- The cache backwards: the contents of a sector; Read. -/
import Derived.Test.YtpcbolmidnoaiaaDSafe
import Derived.Test.YtpcbolmidnoaiaaDLoop
import Derived.Test.YtpcbolmidnoaiaaCScope
import Derived.LoopNIn
import Derived.LoopIn
import Derived.TacticsInMore
set_option linter.unusedVariables false
set_option maxRecDepth 100000
set_option linter.unusedSimpArgs false
namespace Go.Proofs.Ytpcbolmidnoaiaa
open Go.RowKit
attribute [local go_sem] Oper.semAt_some
theorem wpListIn_val {F : Fence} {n : Nat} {w w' : World} {ops : Array Oper} {rest : List Oper} {o : Oper} {a : Act} {v : Value} {Q : Exit → Act → World → Prop} (hF : ∀ f, F.fn f) (hgd : o.guard = none) (hnd : ∀ c, o.op ≠ .defer c)
    (hrun : (execOp a.eval o).run Try.prog w = .ok (.value v) w') (h : wpListIn F n Try.prog ops Q rest (a.put o.dst v) w') : wpListIn F n Try.prog ops Q (o :: rest) a w := by
  refine wpListIn_plain hgd fun K hK => ?_
  unfold Oper.wpIn
  refine ⟨fun f _ => hF f, ?_⟩
  rw [Oper.semAt_plain F _ _ hnd, hrun]
  exact hK _ _ h
theorem wpListIn_skip {F : Fence} {n : Nat} {w w' : World} {ops : Array Oper} {rest : List Oper} {o : Oper} {a : Act} {Q : Exit → Act → World → Prop} (hF : ∀ f, F.fn f) (hgd : o.guard = none) (hnd : ∀ c, o.op ≠ .defer c)
    (hrun : (execOp a.eval o).run Try.prog w = .ok .skip w') (h : wpListIn F n Try.prog ops Q rest (a.put o.dst undef) w') : wpListIn F n Try.prog ops Q (o :: rest) a w := by
  refine wpListIn_plain hgd fun K hK => ?_
  unfold Oper.wpIn
  refine ⟨fun f _ => hF f, ?_⟩
  rw [Oper.semAt_plain F _ _ hnd, hrun]
  exact hK _ _ h
/-- Element j of a cache. -/
def cAt (c : List (Int × List Int)) (j : Nat) : Int × List Int := c.getD j (0, [])
theorem cache_range {w : World} {v : Value} {c : List (Int × List Int)} (h : w.ownsRow 0 96 129 v c.length (c.map wcells).flatten) (hl : ∀ x ∈ c, x.2.length = 128) (j : Nat) (hj : j < c.length) :
    ∃ g cap, v = .slice (some ⟨g, 0, none⟩) c.length cap ∧ w.rangeAt g (j * 129) (wcells (cAt c j)) ∧ (cAt c j).2.length = 128 := by
  rcases h.2 with ⟨e, e2⟩ | ⟨g, cap, cur, e, _⟩
  · omega
  · subst e
    have hr : ∀ r ∈ c.map wcells, r.length = 129 := fun r hr => by
      obtain ⟨x, hx, rfl⟩ := List.mem_map.1 hr
      exact wcells_len (hl x hx)
    have := range_of_row h hr (by simp) j (by simpa using hj)
    rw [List.getElem_map] at this
    have hs : cAt c j = c[j] := by unfold cAt; simp [List.getD, hj]
    rw [hs]
    exact ⟨g, cap, rfl, this, hl _ (List.getElem_mem hj)⟩
def encB (c : List (Int × List Int)) (k : Nat) : Array Value := #[.int .i64 ((c.length - 1 - k : Nat) : Int), wrA (cAt c (c.length - 1 - k)).1 (cAt c (c.length - 1 - k)).2]
theorem snoc_range (k : Nat) : List.range k ++ [k] = List.range (k + 1) := (List.range_succ).symm
theorem range_pre {k n : Nat} (h : k ≤ n) : List.range k <+: List.range n := by
  refine ⟨List.range' k (n - k), ?_⟩
  rw [List.range_eq_range', List.range_eq_range', show List.range' k (n - k) = List.range' (0 + 1 * k) (n - k) by simp, List.range'_append, show k + (n - k) = n by omega]
theorem pre_range {pre : List Nat} {x n : Nat} (h : pre ++ [x] <+: List.range n) : pre = List.range x ∧ x < n := by
  have hl := h.length_le
  simp at hl
  have e := List.prefix_iff_eq_take.1 h
  have hx : x = pre.length := by
    have e1 : (pre ++ [x])[pre.length]? = some x := by simp
    rw [e, List.getElem?_take_of_lt (by simp), List.getElem?_range (by omega)] at e1
    exact (Option.some.inj e1).symm
  refine ⟨?_, by omega⟩
  have h2 : pre <+: List.range n := List.IsPrefix.trans (List.prefix_append _ _) h
  have e2 := List.prefix_iff_eq_take.1 h2
  rw [e2, hx]
  apply List.ext_getElem?
  intro i
  by_cases hi : i < pre.length
  · rw [List.getElem?_take_of_lt hi, List.getElem?_range (by omega), List.getElem?_range hi]
  · rw [List.getElem?_eq_none (by simp; omega), List.getElem?_eq_none (by simp; omega)]
set_option maxRecDepth 100000 in
set_option maxHeartbeats 4000000 in
theorem back1_in (n : Nat) (hn : 1 ≤ n) (l Bx Bs : Nat) (v : Value) (c : List (Int × List Int)) (hcl : c.length ≤ 256) (hl : ∀ x ∈ c, x.2.length = 128) (S : Nat → Prop) (hS : ∀ j, S j → j ≠ Bx ∧ v.ownBlock ≠ some j) (W : World)
    (hbx : At 51 W Bx #[v]) (hC : W.ownsRow 0 96 129 v c.length (c.map wcells).flatten)
    (J Jx : List Nat → World → Prop)
    (hY : ∀ pre x W1, pre ++ [x] <+: List.range c.length → W.heap.size ≤ W1.heap.size → J pre W1 → YieldAt Fence.wide (n - 1) Try.prog l (encB c x) W1 fun e W' =>
      (e = .returned (.bool true) ∧ J (pre ++ [x]) W' ∧ Only W.heap.size S W1 W') ∨ (e = .returned (.bool false) ∧ Jx (pre ++ [x]) W')) (h0 : J [] W) :
    CallsIn Fence.wide n Try.prog 80 #[.func (.yield l) #[] #[], .pointer (some ⟨Bx, 0, none⟩)] W fun e W' => (∃ v, e = .returned v) ∧ (J (List.range c.length) W' ∨ ∃ pre, pre <+: List.range c.length ∧ Jx pre W') := by
  obtain ⟨a0, c0, hv0⟩ : ∃ a0 c0, v = .slice a0 c.length c0 := by
    rcases hC.2 with ⟨e, e2⟩ | ⟨g, cap, cur, e, _⟩
    · exact ⟨none, 0, by rw [e, e2]⟩
    · exact ⟨_, _, e⟩
  subst hv0
  have c0' : W.cell? ⟨Bx, 0, none⟩ = some (.slice a0 c.length c0) := hbx.cell 0
  have w1 : wrap64 ((c.length : Int) - 1) = (c.length : Int) - 1 := by unfold wrap64; omega
  have HLT := Lib.hid hbx.lt
  have HY := Lib.hid hY
  have HS := Lib.hid hS
  have HJ0 := Lib.hid h0
  have HBX := Lib.hid hbx
  have HC := Lib.hid hC
  have HL := Lib.hid (And.intro hcl hl)
  have HGL0 := Lib.hid (show ∀ g cap, Value.slice a0 c.length c0 = .slice (some ⟨g, 0, none⟩) c.length cap → g < W.heap.size from fun g cap e => (hC.lt g (by rw [e]; rfl)).2)
  clear hY hS h0 hbx hC hcl hl
  refine callsIn_of_wp Try.func80 rfl trivial ?_ rfl
  simp only [Try.ntmps80, List.size_toArray, List.length_cons, List.length_nil, Nat.reduceAdd, Nat.reduceSub, Array.replicate_succ, Array.replicate_zero, List.push_toArray, List.append_toArray, List.nil_append, List.cons_append]
  gi_wp2
  gi_loopw [3] (fun i wr => ∃ j : Nat, j ≤ c.length ∧ i = .int .i64 ((j : Int) - 1) ∧ J (List.range (c.length - j)) wr ∧ W.heap.size ≤ wr.heap.size ∧ At 51 wr Bx #[.slice a0 c.length c0] ∧ wr.ownsRow 0 96 129 (.slice a0 c.length c0) c.length (c.map wcells).flatten) (fun i _ => (intOf i + 1).toNat)
  case atStart => exact ⟨c.length, Nat.le_refl _, by first | rfl | rw [w1], by rw [Nat.sub_self]; exact HJ0.out, Nat.le_refl _, HBX.out, HC.out⟩
  case round =>
    obtain ⟨j, hj, rfl, hJk, hsz, hbx, hC⟩ := hrel
    clear c0' w1
    cases j with
    | zero =>
      have HX := Lib.hid hJk
      clear hJk hsz hbx hC hj HBX HC
      gi_wp2
      go_end0
      exact ⟨⟨_, rfl⟩, .inl HX.out⟩
    | succ j =>
      rw [show (((j + 1 : Nat) : Int) - 1) = (j : Int) by omega]
      have i1 : (0 : Int) ≤ (j : Int) := by omega
      have i2 : (j : Int) < c.length := by omega
      have w2 : wrap64 ((j : Int) - 1) = (j : Int) - 1 := by have := HL.out.1; unfold wrap64; omega
      have cc : wr.cell? ⟨Bx, 0, none⟩ = some (.slice a0 c.length c0) := hbx.cell 0
      obtain ⟨g, cap, hv, hrg, hle⟩ := cache_range hC HL.out.2 j (by omega)
      have HGL := Lib.hid (HGL0.out g cap hv)
      cases hv
      have hpre : List.range (c.length - (j + 1)) ++ [c.length - (j + 1)] <+: List.range c.length := by rw [snoc_range]; exact range_pre (by omega)
      obtain ⟨fn, tmps, assign, body, hyy, hR⟩ := HY.out _ _ wr hpre hsz hJk
      have ej : c.length - 1 - (c.length - (j + 1)) = j := by omega
      have es : List.range (c.length - (j + 1)) ++ [c.length - (j + 1)] = List.range (c.length - j) := by rw [snoc_range]; congr 1; omega
      rw [es] at hR hpre
      unfold encB at hyy
      rw [ej] at hyy
      have HR := Lib.hid hR
      have HP := Lib.hid hpre
      have HBX2 := Lib.hid hbx
      have HC2 := Lib.hid hC
      have HK := Lib.hid (And.intro hj hsz)
      have HG := Lib.hid (show ∀ W : World, W = wr → (loadVar 96 ⟨g, j * 129, none⟩).run Try.prog W = .ok (wrA (cAt c j).1 (cAt c j).2) W from fun W e => by subst e; exact load_wr hrg hle)
      clear hJk hsz hbx hC hj HBX HC hR hpre es ej hrg hle
      generalize (cAt c j).1 = n0 at *
      generalize (cAt c j).2 = L0 at *
      gi_wp2_with (refine wpListIn_val (fun _ => trivial) rfl (by intro c hc; cases hc) (exec_load rfl rfl (HG.out _ rfl)) ?_)
      refine HR.out.mono ?_
      rintro e W6 (⟨rfl, hJ6, hO6⟩ | ⟨rfl, hJx6⟩)
      · have hs6 := hO6.size
        have hbx6 : At 51 W6 Bx _ := (hO6.block Bx HLT.out (fun q => (HS.out _ q).1 rfl)).trans HBX2.out
        have hC6 : W6.ownsRow 0 96 129 (.slice (some ⟨g, 0, none⟩) c.length c0) c.length (c.map wcells).flatten := by
          have h := HC2.out
          refine ⟨h.1, .inr ?_⟩
          rcases h.2 with ⟨e, _⟩ | ⟨g', cap', cur, e, hg, hh, rr⟩
          · cases e
          · cases e
            refine ⟨g, _, cur, rfl, hg, ?_, rr⟩
            have hgl : g < W.heap.size := HGL.out
            exact (hO6.block g hgl (fun q => (HS.out _ q).2 rfl)).trans hh
        have HREL := Lib.hid (And.intro hJ6 (And.intro (show W.heap.size ≤ W6.heap.size from Nat.le_trans HK.out.2 hs6) (And.intro hbx6 hC6)))
        clear hJ6 hO6 hs6 hbx6 hC6 hyy cc
        gi_wp2
        go_roundw
        case rel => exact ⟨j, by have := HK.out.1; omega, by first | rfl | rw [w2], HREL.out⟩
        case measure =>
          first
            | (show (intOf (.int .i64 (wrap64 ((j : Int) - 1))) + 1).toNat < (intOf (.int .i64 (j : Int)) + 1).toNat; rw [w2])
            | (show (intOf (.int .i64 ((j : Int) - 1)) + 1).toNat < (intOf (.int .i64 (j : Int)) + 1).toNat)
          show ((j : Int) - 1 + 1).toNat < ((j : Int) + 1).toNat
          omega
      · have HJX := Lib.hid hJx6
        clear hJx6 hyy cc
        gi_wp2
        refine bodyPost_ret (results_none rfl _ _ _) rfl ?_
        exact ⟨⟨_, rfl⟩, .inr ⟨_, HP.out, HJX.out⟩⟩
end Go.Proofs.Ytpcbolmidnoaiaa
