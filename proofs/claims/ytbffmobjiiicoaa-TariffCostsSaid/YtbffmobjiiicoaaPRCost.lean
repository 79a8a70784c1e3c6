/- The document's Cost. -/
import Derived.Test.YtbffmobjiiicoaaPCost
import Derived.Test.YtbffmobjiiicoaaFRefPay
import Derived.LoopTactic
import Derived.Deep.RegionHeld3
set_option linter.unusedVariables false
set_option linter.unusedSimpArgs false
namespace Go.Proofs.Ytbffmobjiiicoaa
open Go.RowKit
theorem infoR : (Try.prog.info? 30).map (fun i => (i.zero, i.size)) = some (some (.agg zeroP), 512) := by kernel_rfl
theorem builtR : Try.prog.built 30 [] = some zeroP := by kernel_rfl
theorem build_rpurse {ops : Array Oper} {rest : List Oper} {o : Oper} {a : Act} {w : World} {Q : Exit → Act → World → Prop}
    (hgd : o.guard = none) (ho : o.op = .build 30 #[]) (h : wpList Try.prog ops Q rest (a.put o.dst (.agg zeroP)) w) : wpList Try.prog ops Q (o :: rest) a w := by
  have e : ((#[] : Array (Nat × Operand)).map fun (i, x) => (i, a.eval x)).toList = [] := by simp
  refine wpList_build hgd 30 #[] ho ?_ ?_
  · rw [e, builtR]; rfl
  · rw [e, builtR]; exact h
/-- How far the sum is. -/
def SumIs (L : Nat → Int × Int) (k : Nat) (c : Int) (o : Bool) : Prop := 0 ≤ c ∧ c ≤ 4611686018427387904 ∧ (o = false → c = Ts L k) ∧ (o = true → 4611686018427387904 < Ts L k)
theorem sum_over {L : Nat → Int × Int} {k : Nat} {c : Int} (h : SumIs L k c true) : SumIs L (k + 1) c true := ⟨h.1, h.2.1, fun q => (by cases q), fun _ => Int.lt_of_lt_of_le (h.2.2.2 rfl) (ts_mono L (Nat.le_succ k))⟩
theorem sum_new {L : Nat → Int × Int} {k : Nat} {c : Int} (h : SumIs L k c false) (hx : 4611686018427387904 - c < Xs L k) : SumIs L (k + 1) c true := ⟨h.1, h.2.1, fun q => (by cases q), fun _ => by
  have e := h.2.2.1 rfl
  show 4611686018427387904 < Ts L k + Xs L k
  omega⟩
theorem sum_next {L : Nat → Int × Int} {k : Nat} {c : Int} (h : SumIs L k c false) (hx : ¬ 4611686018427387904 - c < Xs L k) : SumIs L (k + 1) (c + Xs L k) false := by
  have e := h.2.2.1 rfl
  have := (xs_bounds L k).1
  have := h.1
  exact ⟨by omega, by omega, fun _ => by rw [e]; rfl, fun q => (by cases q)⟩
set_option maxRecDepth 20000 in
set_option maxHeartbeats 4000000 in
theorem rcost_any (a : Option Addr) (len cap : Nat) (L : Nat → Int × Int) (h200 : len ≤ 100000) (w : World) (hA : PairsAt w.heap.size w a len L) :
    Calls Try.prog 12 #[.slice a len cap] w fun e w' => CostE L len e ∧ Below w.heap.size w w' := by
  have HL := Lib.hid h200
  have HA := Lib.hid hA
  clear h200 hA
  go_enter Try.func12, Try.ntmps12
  go_wp2_with (first | (refine build_rpurse rfl rfl ?_))
  go_loopw [6, 7, 8] (fun s ov i wr => ∃ (k : Nat) (c : Int) (o : Bool), k ≤ len ∧ i = .int .i64 k ∧ s = .int .i64 c ∧ ov = .bool o ∧ SumIs L k c o ∧ (∀ j, j < k → Es L j = 0) ∧ PAt 30 wr w.heap.size (Fs L k) ∧ Below w.heap.size w wr) (fun _ _ i _ => (len - intOf i).toNat)
  case atStart => exact ⟨0, 0, false, Nat.zero_le _, rfl, rfl, rfl, ⟨Int.le_refl _, by decide, fun _ => rfl, fun q => (by cases q)⟩, fun j hj => absurd hj (Nat.not_lt_zero _), PAt.new w _ (fun _ => 0), (Below.refl _ w).alloc (Nat.le_refl _) _⟩
  case round =>
    obtain ⟨k, c, o, hk, rfl, rfl, rfl, hS, hall, hP, hB⟩ := hrel
    have HS := Lib.hid hS
    have HALL := Lib.hid hall
    by_cases hlt : k < len
    · obtain ⟨b, ao, rfl, hb, d0, d1⟩ := HA.out.next hB (Nat.le_refl _) k hlt
      have i1 : (k : Int) < len := by omega
      have hmx : Try.prog.follows .mixedOrders = true := by kernel_rfl
      have HK := Lib.hid hlt
      have HBB := Lib.hid hb
      have HB := Lib.hid hB
      have HPW := Lib.hid hP
      have q1 : wr.drew.cell? ⟨b, ao + k * 2, none⟩ = some (.int .i64 (L k).1) ∧ wr.drew.cell? ⟨b, ao + k * 2 + 1, none⟩ = some (.int .i64 (L k).2) := ⟨d0, d1⟩
      have HPAY := Lib.hid (rpay_any w.heap.size (Fs L k) 0 0 (L k).1 (L k).2 wr.drew hP (fs_rests L k))
      have wk : wrap64 ((k : Int) + 1) = ((k + 1 : Nat) : Int) := by have := HL.out; unfold wrap64; omega
      have WK := Lib.hid wk
      have hxx : payV (Fs L k) 0 0 (L k).1 (L k).2 = Xs L k := rfl
      have hee : payE (Fs L k) 0 0 (L k).1 (L k).2 = Es L k := rfl
      have hff : payF (Fs L k) 0 0 (L k).1 (L k).2 = Fs L (k + 1) := rfl
      rw [hxx, hee, hff] at HPAY
      clear hS hall hP hB hlt hk hb wk hxx hee hff
      go_wp2_with fail
      go_region_held3 (fun w' => w'.cell? ⟨b, ao + k * 2, none⟩ = some (.int .i64 (L k).1) ∧ w'.cell? ⟨b, ao + k * 2 + 1, none⟩ = some (.int .i64 (L k).2))
        (first | (with_reducible exact q1) | (with_reducible exact q2) | go_keep)
        (first
          | (go_at_call 6; ((with_reducible refine HPAY.out.mono ?_); rintro e X ⟨rfl, hP2, hG2⟩; have q2 : X.cell? ⟨b, ao + k * 2, none⟩ = some (.int .i64 (L k).1) ∧ X.cell? ⟨b, ao + k * 2 + 1, none⟩ = some (.int .i64 (L k).2) := ⟨World.grownBy.cell hG2 q1.1 (fun e => by have hb := HBB.out; have e2 : b = w.heap.size := Option.some.inj e; omega), World.grownBy.cell hG2 q1.2 (fun e => by have hb := HBB.out; have e2 : b = w.heap.size := Option.some.inj e; omega)⟩; have HPX := Lib.hid hP2; have HBX := Lib.hid (HB.out.drew.trans ((Below.refl w.heap.size wr.drew).grown hG2 HB.out.drew.size (fun r e => by cases e; exact Nat.le_refl _))); clear hP2 hG2)))
      all_goals
        rename_i hHeld
        clear hHeld q1 q2 d0 d1 HPAY
        by_cases hE : Es L k = 0
        case neg =>
          have e1 : (Es L k != 0) = true := by simpa using hE
          have HC := Lib.hid (show CostIs L len 0 0 (Es L k) from .inl ⟨k, HK.out, HALL.out, rfl, hE, rfl, rfl⟩)
          generalize Es L k = x at *
          clear hE
          go_wp2
          go_ret3
          exact ⟨⟨_, _, _, HC.out, rfl⟩, HBX.out⟩
        have e1 : (Es L k != 0) = false := by simpa using hE
        have HALL2 := Lib.hid (show ∀ j, j < k + 1 → Es L j = 0 from fun j hj => by
          rcases Nat.lt_or_ge j k with q | q
          · exact HALL.out j q
          · obtain rfl : j = k := by omega
            exact hE)
        obtain ⟨x0, x1⟩ := xs_bounds L k
        obtain ⟨s0, s1⟩ : 0 ≤ c ∧ c ≤ 4611686018427387904 := ⟨HS.out.1, HS.out.2.1⟩
        have XX := Lib.hid (rfl : Xs L k = Xs L k)
        clear hE
        cases o with
        | true =>
          have HS2 := Lib.hid (sum_over HS.out)
          go_wp2
          go_roundw
          case rel => exact ⟨k + 1, c, true, HK.out, by first | rfl | (show Value.int .i64 (wrap64 ((k : Int) + 1)) = _; rw [WK.out]), by first | rfl | (rw [← XX.out]), rfl, HS2.out, HALL2.out, HPX.out, HBX.out⟩
          case measure =>
            have hk2 := HK.out
            have wk := WK.out
            first
              | (show ((len : Int) - intOf (.int .i64 (wrap64 ((k : Int) + 1)))).toNat < ((len : Int) - intOf (.int .i64 (k : Int))).toNat; rw [wk])
              | (show ((len : Int) - intOf (.int .i64 ((k + 1 : Nat) : Int))).toNat < ((len : Int) - intOf (.int .i64 (k : Int))).toNat)
              | (show ((len : Int) - intOf (.int .i64 ((k : Int) + 1))).toNat < ((len : Int) - intOf (.int .i64 (k : Int))).toNat)
            first
              | (show ((len : Int) - ((k + 1 : Nat) : Int)).toNat < ((len : Int) - ((k : Nat) : Int)).toNat; omega)
              | (show ((len : Int) - ((k : Int) + 1)).toNat < ((len : Int) - ((k : Nat) : Int)).toNat; omega)
        | false =>
        by_cases hx : 4611686018427387904 - c < Xs L k
        · have HS2 := Lib.hid (sum_new HS.out hx)
          have hx1 : decide (4611686018427387904 - c < Xs L k) = true := decide_eq_true hx
          go_wp2
          go_roundw
          case rel => exact ⟨k + 1, c, true, HK.out, by first | rfl | (show Value.int .i64 (wrap64 ((k : Int) + 1)) = _; rw [WK.out]), by first | rfl | (rw [← XX.out]), rfl, HS2.out, HALL2.out, HPX.out, HBX.out⟩
          case measure =>
            have hk2 := HK.out
            have wk := WK.out
            first
              | (show ((len : Int) - intOf (.int .i64 (wrap64 ((k : Int) + 1)))).toNat < ((len : Int) - intOf (.int .i64 (k : Int))).toNat; rw [wk])
              | (show ((len : Int) - intOf (.int .i64 ((k + 1 : Nat) : Int))).toNat < ((len : Int) - intOf (.int .i64 (k : Int))).toNat)
              | (show ((len : Int) - intOf (.int .i64 ((k : Int) + 1))).toNat < ((len : Int) - intOf (.int .i64 (k : Int))).toNat)
            first
              | (show ((len : Int) - ((k + 1 : Nat) : Int)).toNat < ((len : Int) - ((k : Nat) : Int)).toNat; omega)
              | (show ((len : Int) - ((k : Int) + 1)).toNat < ((len : Int) - ((k : Nat) : Int)).toNat; omega)
        · have HS2 := Lib.hid (sum_next HS.out hx)
          have hx1 : decide (4611686018427387904 - c < Xs L k) = false := decide_eq_false hx
          have hs : c + Xs L k ≤ 4611686018427387904 := by omega
          go_wp2
          go_roundw
          case rel => exact ⟨k + 1, c + Xs L k, false, HK.out, by first | rfl | (show Value.int .i64 (wrap64 ((k : Int) + 1)) = _; rw [WK.out]), by first | rfl | (rw [← XX.out]), rfl, HS2.out, HALL2.out, HPX.out, HBX.out⟩
          case measure =>
            have hk2 := HK.out
            have wk := WK.out
            first
              | (show ((len : Int) - intOf (.int .i64 (wrap64 ((k : Int) + 1)))).toNat < ((len : Int) - intOf (.int .i64 (k : Int))).toNat; rw [wk])
              | (show ((len : Int) - intOf (.int .i64 ((k + 1 : Nat) : Int))).toNat < ((len : Int) - intOf (.int .i64 (k : Int))).toNat)
              | (show ((len : Int) - intOf (.int .i64 ((k : Int) + 1))).toNat < ((len : Int) - intOf (.int .i64 (k : Int))).toNat)
            first
              | (show ((len : Int) - ((k + 1 : Nat) : Int)).toNat < ((len : Int) - ((k : Nat) : Int)).toNat; omega)
              | (show ((len : Int) - ((k : Int) + 1)).toNat < ((len : Int) - ((k : Nat) : Int)).toNat; omega)
    · have hke : k = len := by omega
      subst hke
      have i1 : ¬ ((k : Int) < k) := by omega
      have HB := Lib.hid hB
      have hmx : Try.prog.follows .mixedOrders = true := by kernel_rfl
      cases o with
      | true =>
        have HC := Lib.hid (show CostIs L k 0 0 10 from .inr ⟨HALL.out, .inr ⟨HS.out.2.2.2 rfl, rfl, rfl, rfl⟩⟩)
        clear hS hall hP hB hlt hk
        go_wp2
        go_ret3
        exact ⟨⟨_, _, _, HC.out, rfl⟩, HB.out⟩
      | false =>
        have hcT := HS.out.2.2.1 rfl
        have HC := Lib.hid (show CostIs L k c (Fs L k 0) 0 from .inr ⟨HALL.out, .inl ⟨by rw [← hcT]; exact HS.out.2.1, hcT, rfl, rfl⟩⟩)
        have p0 := hP.cell (k := 0) (by omega)
        generalize Fs L k 0 = r at *
        clear hS hall hB hlt hk hP hcT
        go_wp2_with fail
        have s1 : wr.drew.cell? ⟨w.heap.size, 0, none⟩ = some (.int .i64 r) := p0
        go_region_held3 (fun w' => w'.cell? ⟨w.heap.size, 0, none⟩ = some (.int .i64 r))
          (first | (with_reducible exact s1) | go_keep)
          (first | fail)
        all_goals
          go_wp2
          go_ret3
          exact ⟨⟨_, _, _, HC.out, rfl⟩, HB.out.drew⟩
end Go.Proofs.Ytbffmobjiiicoaa
