/- The contract of the document's Parts: quotient and rest of two bare numbers of 64 bits. -/
import Derived.Test.YtmkmpkajcjdfaaaRefSum
import Derived.Test.YtmkmpkajcjdfaaaUint
set_option linter.unusedVariables false
namespace Go.Proofs.Ytmkmpkajcjdfaaa
open Go.RowKit
/-- Two results that lie in memory. -/
theorem results_two_rows {fn : Func} {p u : Tmp} (h : fn.results = #[.cell p 42, .cell u 42]) (tmps : Array Value) (w : World) (g k : Nat) (neg neg' : Bool) (f f' : Nat → Int)
    (hp : tmps.getD p undef = .pointer (some ⟨g, 0, none⟩)) (hu : tmps.getD u undef = .pointer (some ⟨k, 0, none⟩)) (hg : At w g (num neg f)) (hk : At w k (num neg' f')) :
    (results fn tmps).run Try.prog w = .ok (.tuple #[.agg (num neg f), .agg (num neg' f')]) w := by
  have hp' : tmps[p]?.getD undef = .pointer (some ⟨g, 0, none⟩) := by simpa using hp
  have hu' : tmps[u]?.getD undef = .pointer (some ⟨k, 0, none⟩) := by simpa using hu
  have l1 := run_loadVar_row (P := Try.prog) w g _ 42 (num neg f) _ _ hg Try.underlying42 rfl (size42 neg f)
  have l2 := run_loadVar_row (P := Try.prog) w k _ 42 (num neg' f') _ _ hk Try.underlying42 rfl (size42 neg' f')
  simp [results, h, hp', hu', asAddr, l1, l2, Sem.run_bind, Result.andThen]
/-- A number's bits, those above place k one place up. -/
def shl (r k : Nat) (j : Nat) : Int := if k < j then bitf r (j - 1) else bitf r j
theorem shl_start (r : Nat) : num false (bitf r) = num false (shl r 199) := num_congr fun j hj => by unfold shl; rw [if_neg (by omega)]
theorem shl_step (r k : Nat) : (fun j => if j = k + 1 then shl r (k + 1) k else shl r (k + 1) j) = shl r k := by
  funext j
  unfold shl
  by_cases h : j = k + 1
  · subst h
    rw [if_pos rfl, if_neg (by omega), if_pos (by omega)]; rfl
  · rw [if_neg h]
    by_cases h2 : k + 1 < j
    · rw [if_pos h2, if_pos (by omega)]
    · rw [if_neg h2, if_neg (by omega)]
theorem shl_end (r d : Nat) (hd : d ≤ 1) : (fun j => if j = 0 then (d : Int) else shl r 0 j) = bitf (2 * r + d) := by
  funext j
  unfold shl
  rcases j with _ | j
  · unfold bitf
    rw [if_pos rfl, Nat.pow_zero, Nat.div_one]; omega
  · rw [if_neg (by omega), if_pos (by omega)]
    unfold bitf
    rw [Nat.pow_succ', ← Nat.div_div_eq_div_mul, show (2 * r + d) / 2 = r by omega, Nat.add_sub_cancel]
/-- The bits of n from place m on. -/
def highBits (n m : Nat) (j : Nat) : Int := if m ≤ j then bitf n j else 0
theorem highBits_start {n : Nat} (h : n < 2 ^ 200) : num false (fun _ => 0) = num false (highBits n 200) := num_congr fun j hj => by unfold highBits; rw [if_neg (by omega)]
theorem highBits_end (n : Nat) : highBits n 0 = bitf n := by funext j; unfold highBits; rw [if_pos (by omega)]
theorem highBits_one {n m : Nat} (h : bitf n m = 1) : (fun j => if j = m then (1 : Int) else highBits n (m + 1) j) = highBits n m := by
  funext j
  unfold highBits
  by_cases hj : j = m
  · subst hj; rw [if_pos rfl, if_pos (by omega), h]
  · rw [if_neg hj]
    by_cases h2 : m + 1 ≤ j
    · rw [if_pos h2, if_pos (by omega)]
    · rw [if_neg h2, if_neg (by omega)]
theorem highBits_zero {n m : Nat} (h : bitf n m = 0) : highBits n (m + 1) = highBits n m := by
  funext j
  unfold highBits
  by_cases hj : j = m
  · subst hj; rw [if_neg (by omega), if_pos (by omega), h]
  · by_cases h2 : m + 1 ≤ j
    · rw [if_pos h2, if_pos (by omega)]
    · rw [if_neg h2, if_neg (by omega)]
/-- One place of a division. -/
theorem part_place {a b m : Nat} (hb : 0 < b) :
    (b ≤ 2 * (a / 2 ^ (m + 1) % b) + a / 2 ^ m % 2 → bitf (a / b) m = 1 ∧ 2 * (a / 2 ^ (m + 1) % b) + a / 2 ^ m % 2 - b = a / 2 ^ m % b) ∧
    (¬ b ≤ 2 * (a / 2 ^ (m + 1) % b) + a / 2 ^ m % 2 → bitf (a / b) m = 0 ∧ 2 * (a / 2 ^ (m + 1) % b) + a / 2 ^ m % 2 = a / 2 ^ m % b) := by
  have e1 : a / b / 2 ^ m = a / 2 ^ m / b := by rw [Nat.div_div_eq_div_mul, Nat.div_div_eq_div_mul, Nat.mul_comm]
  have e2 : a / 2 ^ (m + 1) = a / 2 ^ m / 2 := div_pow_succ a m
  unfold bitf
  rw [e1, e2]
  generalize a / 2 ^ m = x
  have hx : x = 2 * (x / 2) + x % 2 := by omega
  have hd := Nat.div_add_mod (x / 2) b
  have hlt := Nat.mod_lt (x / 2) hb
  generalize x / 2 / b = Q at *
  generalize x / 2 % b = R at *
  have hx2 : x = b * (2 * Q) + (2 * R + x % 2) := by
    have : b * (2 * Q) = 2 * (b * Q) := by rw [Nat.mul_left_comm]
    omega
  constructor
  · intro hge
    have hx3 : x = b * (2 * Q + 1) + (2 * R + x % 2 - b) := by
      rw [Nat.mul_add, Nat.mul_one]; omega
    have hq : x / b = 2 * Q + 1 := by
      rw [hx3, Nat.mul_add_div hb, Nat.div_eq_of_lt (by omega)]
    have hr : x % b = 2 * R + x % 2 - b := by
      conv => lhs; rw [hx3]
      rw [Nat.mul_add_mod, Nat.mod_eq_of_lt (by omega)]
    rw [hq, hr]
    exact ⟨by omega, rfl⟩
  · intro hlt2
    have hq : x / b = 2 * Q := by
      conv => lhs; rw [hx2]
      rw [Nat.mul_add_div hb, Nat.div_eq_of_lt (by omega)]
      rfl
    have hr : x % b = 2 * R + x % 2 := by
      conv => lhs; rw [hx2]
      rw [Nat.mul_add_mod, Nat.mod_eq_of_lt (by omega)]
    rw [hq, hr]
    exact ⟨by omega, rfl⟩
set_option maxRecDepth 10000 in
set_option maxHeartbeats 2000000 in
theorem parts_core (p q : Bool) (a b : Nat) (ha : a ≤ 18446744073709551615) (hb : b ≤ 18446744073709551615) (hb0 : 0 < b) (w : World) :
    Calls Try.prog 25 #[.agg (nb p a), .agg (nb q b)] w fun e w' => e = .returned (.tuple #[.agg (nb false (a / b)), .agg (nb false (a % b))]) ∧ Below w.heap.size w w' := by
  have hz := (zero_of_info info42).1
  have HA := Lib.hid ha
  have HBb := Lib.hid hb
  have HB0 := Lib.hid hb0
  clear ha hb hb0
  go_enter Try.func25, Try.ntmps25
  go_wp2
  go_loopw [8] (fun iv wr => ∃ m : Nat, m ≤ 200 ∧ iv = .int .i64 ((m : Int) - 1) ∧ At wr w.heap.size (num p (bitf a)) ∧ At wr (w.heap.size + 1) (num q (bitf b)) ∧ At wr (w.heap.size + 1 + 1) (num false (fun _ => 0)) ∧ At wr (w.heap.size + 1 + 1 + 1) (num false (fun _ => 0)) ∧ At wr (w.heap.size + 1 + 1 + 1 + 1) (num false (highBits (a / b) m)) ∧ At wr (w.heap.size + 1 + 1 + 1 + 1 + 1) (num false (bitf (a / 2 ^ m % b))) ∧ Below w.heap.size w wr) (fun iv _ => (intOf iv + 1).toNat)
  case atStart =>
    have b1 := At.new w (nb p a)
    have b2 := At.new (w.alloc (.cells (nb p a) 42)) (nb q b)
    have b3 := At.new ((w.alloc (.cells (nb p a) 42)).alloc (.cells (nb q b) 42)) zeroNum
    have b4 := At.new (((w.alloc (.cells (nb p a) 42)).alloc (.cells (nb q b) 42)).alloc (.cells zeroNum 42)) zeroNum
    have b5 := At.new ((((w.alloc (.cells (nb p a) 42)).alloc (.cells (nb q b) 42)).alloc (.cells zeroNum 42)).alloc (.cells zeroNum 42)) zeroNum
    have b6 := At.new (((((w.alloc (.cells (nb p a) 42)).alloc (.cells (nb q b) 42)).alloc (.cells zeroNum 42)).alloc (.cells zeroNum 42)).alloc (.cells zeroNum 42)) zeroNum
    simp only [World.size_alloc] at b2 b3 b4 b5 b6
    refine ⟨200, by omega, rfl, ((((b1.alloc _).alloc _).alloc _).alloc _).alloc _, (((b2.alloc _).alloc _).alloc _).alloc _, ((b3.alloc _).alloc _).alloc _, (b4.alloc _).alloc _, ?_, ?_, ((((((Below.refl _ w).alloc (Nat.le_refl _) _).alloc (by simp) _).alloc (by simp; omega) _).alloc (by simp; omega) _).alloc (by simp; omega) _).alloc (by simp; omega) _⟩
    · rw [← highBits_start (Nat.lt_of_le_of_lt (Nat.div_le_self _ _) (Nat.lt_of_le_of_lt HA.out (by omega)))]
      exact b5.alloc _
    · rw [Nat.div_eq_of_lt (Nat.lt_of_le_of_lt HA.out (by omega)), Nat.zero_mod]
      have e : num false (bitf 0) = num false (fun _ => 0) := num_congr fun j _ => by simp [bitf]
      rw [e]; exact b6
  case round =>
    obtain ⟨m, hm, rfl, h1, h2, h3, h4, h5, h6, hB⟩ := hrel
    cases m with
    | zero =>
      rw [highBits_end] at h5
      rw [Nat.pow_zero, Nat.div_one] at h6
      have H3 := Lib.hid h3
      have H4 := Lib.hid h4
      have H5 := Lib.hid h5
      have H6 := Lib.hid h6
      clear h1 h2 h3 h4 h5 h6
      go_wp2
      refine wp_region_any (by kernel_rfl) ?_
      change wpAny _ _ _ _ _ _ _ (World.drew _)
      refine wpAny_ready (rs := [0, 1]) (by kernel_rfl) (by simp) ?_
      refine AllReady.cons rfl (fun K hK => ?_) (AllReady.cons rfl (fun K hK => ?_) AllReady.nil)
      · refine step_load_num (w := wr.drew) (g := w.heap.size + 1 + 1 + 1 + 1) H5.out rfl rfl rfl ?_
        refine hK _ _ ?_
        clear hK K
        refine wpAny_ready (rs := [1, 2]) (by kernel_rfl) (by simp) ?_
        refine AllReady.cons rfl (fun K hK => ?_) (AllReady.cons rfl (fun K hK => ?_) AllReady.nil)
        · refine step_load_num (w := wr.drew) (g := w.heap.size + 1 + 1 + 1 + 1 + 1) H6.out rfl rfl rfl ?_
          refine hK _ _ ?_
          clear hK K
          refine wpAny_ready (rs := [2]) (by kernel_rfl) (by simp) (AllReady.cons rfl (fun K hK => ?_) AllReady.nil)
          refine step_store_num (w := wr.drew) (g := w.heap.size + 1 + 1) (neg := false) (f := bitf (a / b)) H3.out rfl rfl rfl rfl ?_
          refine hK _ _ ?_
          clear hK K
          have j4 : At (wr.drew.setRow (w.heap.size + 1 + 1) (num false (bitf (a / b)))) (w.heap.size + 1 + 1 + 1) (num false (fun _ => 0)) := H4.out.rowOther (W := wr.drew) _ (by omega)
          have j3 : At (wr.drew.setRow (w.heap.size + 1 + 1) (num false (bitf (a / b)))) (w.heap.size + 1 + 1) (num false (bitf (a / b))) := H3.out.row (W := wr.drew)
          have j6 : At (wr.drew.setRow (w.heap.size + 1 + 1) (num false (bitf (a / b)))) (w.heap.size + 1 + 1 + 1 + 1 + 1) (num false (bitf (a % b))) := H6.out.rowOther (W := wr.drew) _ (by omega)
          refine wpAny_ready (rs := [3]) (by kernel_rfl) (by simp) (AllReady.cons rfl (fun K hK => ?_) AllReady.nil)
          refine step_store_num (g := w.heap.size + 1 + 1 + 1) (neg := false) (f := bitf (a % b)) j4 rfl rfl rfl rfl ?_
          refine hK _ _ ?_
          clear hK K
          refine wpAny_done (by kernel_rfl) ?_ _
          have J3 := Lib.hid (j3.rowOther (num false (bitf (a % b))) (g := w.heap.size + 1 + 1 + 1) (by omega))
          have J4 := Lib.hid (j4.row (cs' := num false (bitf (a % b))))
          have JB := Lib.hid (below_row (below_row hB.drew (g := w.heap.size + 1 + 1) (by omega) (num false (bitf (a / b)))) (g := w.heap.size + 1 + 1 + 1) (by omega) (num false (bitf (a % b))))
          clear j3 j4 j6 H3 H4 H5 H6
          go_wp2
          exact bodyPost_ret (v := .tuple #[.agg (nb false (a / b)), .agg (nb false (a % b))]) (results_two_rows rfl _ _ (w.heap.size + 1 + 1) (w.heap.size + 1 + 1 + 1) false false _ _ rfl rfl J3.out J4.out) rfl ⟨rfl, JB.out⟩
        · refine step_store_num (w := wr.drew) (g := w.heap.size + 1 + 1) (neg := false) (f := bitf (a / b)) H3.out rfl rfl rfl rfl ?_
          refine hK _ _ ?_
          clear hK K
          have j4 : At (wr.drew.setRow (w.heap.size + 1 + 1) (num false (bitf (a / b)))) (w.heap.size + 1 + 1 + 1) (num false (fun _ => 0)) := H4.out.rowOther (W := wr.drew) _ (by omega)
          have j3 : At (wr.drew.setRow (w.heap.size + 1 + 1) (num false (bitf (a / b)))) (w.heap.size + 1 + 1) (num false (bitf (a / b))) := H3.out.row (W := wr.drew)
          have j6 : At (wr.drew.setRow (w.heap.size + 1 + 1) (num false (bitf (a / b)))) (w.heap.size + 1 + 1 + 1 + 1 + 1) (num false (bitf (a % b))) := H6.out.rowOther (W := wr.drew) _ (by omega)
          refine wpAny_ready (rs := [1]) (by kernel_rfl) (by simp) (AllReady.cons rfl (fun K hK => ?_) AllReady.nil)
          refine step_load_num (g := w.heap.size + 1 + 1 + 1 + 1 + 1) j6 rfl rfl rfl ?_
          refine hK _ _ ?_
          clear hK K
          refine wpAny_ready (rs := [3]) (by kernel_rfl) (by simp) (AllReady.cons rfl (fun K hK => ?_) AllReady.nil)
          refine step_store_num (g := w.heap.size + 1 + 1 + 1) (neg := false) (f := bitf (a % b)) j4 rfl rfl rfl rfl ?_
          refine hK _ _ ?_
          clear hK K
          refine wpAny_done (by kernel_rfl) ?_ _
          have J3 := Lib.hid (j3.rowOther (num false (bitf (a % b))) (g := w.heap.size + 1 + 1 + 1) (by omega))
          have J4 := Lib.hid (j4.row (cs' := num false (bitf (a % b))))
          have JB := Lib.hid (below_row (below_row hB.drew (g := w.heap.size + 1 + 1) (by omega) (num false (bitf (a / b)))) (g := w.heap.size + 1 + 1 + 1) (by omega) (num false (bitf (a % b))))
          clear j3 j4 j6 H3 H4 H5 H6
          go_wp2
          exact bodyPost_ret (v := .tuple #[.agg (nb false (a / b)), .agg (nb false (a % b))]) (results_two_rows rfl _ _ (w.heap.size + 1 + 1) (w.heap.size + 1 + 1 + 1) false false _ _ rfl rfl J3.out J4.out) rfl ⟨rfl, JB.out⟩
      · refine step_load_num (w := wr.drew) (g := w.heap.size + 1 + 1 + 1 + 1 + 1) H6.out rfl rfl rfl ?_
        refine hK _ _ ?_
        clear hK K
        refine wpAny_ready (rs := [0]) (by kernel_rfl) (by simp) (AllReady.cons rfl (fun K hK => ?_) AllReady.nil)
        refine step_load_num (w := wr.drew) (g := w.heap.size + 1 + 1 + 1 + 1) H5.out rfl rfl rfl ?_
        refine hK _ _ ?_
        clear hK K
        refine wpAny_ready (rs := [2]) (by kernel_rfl) (by simp) (AllReady.cons rfl (fun K hK => ?_) AllReady.nil)
        refine step_store_num (w := wr.drew) (g := w.heap.size + 1 + 1) (neg := false) (f := bitf (a / b)) H3.out rfl rfl rfl rfl ?_
        refine hK _ _ ?_
        clear hK K
        have j4 : At (wr.drew.setRow (w.heap.size + 1 + 1) (num false (bitf (a / b)))) (w.heap.size + 1 + 1 + 1) (num false (fun _ => 0)) := H4.out.rowOther (W := wr.drew) _ (by omega)
        have j3 : At (wr.drew.setRow (w.heap.size + 1 + 1) (num false (bitf (a / b)))) (w.heap.size + 1 + 1) (num false (bitf (a / b))) := H3.out.row (W := wr.drew)
        have j6 : At (wr.drew.setRow (w.heap.size + 1 + 1) (num false (bitf (a / b)))) (w.heap.size + 1 + 1 + 1 + 1 + 1) (num false (bitf (a % b))) := H6.out.rowOther (W := wr.drew) _ (by omega)
        refine wpAny_ready (rs := [3]) (by kernel_rfl) (by simp) (AllReady.cons rfl (fun K hK => ?_) AllReady.nil)
        refine step_store_num (g := w.heap.size + 1 + 1 + 1) (neg := false) (f := bitf (a % b)) j4 rfl rfl rfl rfl ?_
        refine hK _ _ ?_
        clear hK K
        refine wpAny_done (by kernel_rfl) ?_ _
        have J3 := Lib.hid (j3.rowOther (num false (bitf (a % b))) (g := w.heap.size + 1 + 1 + 1) (by omega))
        have J4 := Lib.hid (j4.row (cs' := num false (bitf (a % b))))
        have JB := Lib.hid (below_row (below_row hB.drew (g := w.heap.size + 1 + 1) (by omega) (num false (bitf (a / b)))) (g := w.heap.size + 1 + 1 + 1) (by omega) (num false (bitf (a % b))))
        clear j3 j4 j6 H3 H4 H5 H6
        go_wp2
        exact bodyPost_ret (v := .tuple #[.agg (nb false (a / b)), .agg (nb false (a % b))]) (results_two_rows rfl _ _ (w.heap.size + 1 + 1) (w.heap.size + 1 + 1 + 1) false false _ _ rfl rfl J3.out J4.out) rfl ⟨rfl, JB.out⟩
    | succ m =>
      have e1 : (((m + 1 : Nat) : Int) - 1) = (m : Int) := by omega
      rw [e1]
      clear e1
      have hR : a / 2 ^ (m + 1) % b < b := Nat.mod_lt _ HB0.out
      obtain ⟨R, hRR⟩ : ∃ R, a / 2 ^ (m + 1) % b = R := ⟨_, rfl⟩
      have HPl := Lib.hid (part_place (a := a) (b := b) (m := m) HB0.out)
      rw [hRR] at h6 hR HPl
      have HRR := Lib.hid hRR
      have HR := Lib.hid hR
      clear hRR hR
      have G1 := Lib.hid h1
      have G2 := Lib.hid h2
      have G3 := Lib.hid h3
      have G4 := Lib.hid h4
      have G5 := Lib.hid h5
      have G6 := Lib.hid h6
      have GB := Lib.hid hB
      clear h1 h2 h3 h4 h5 h6 hB
      have hd : decide ((0 : Int) ≤ (m : Int)) = true := by simp
      go_wp2
      generalize wr = w1 at *
      go_loopw [9] (fun kv wr => ∃ k : Nat, k ≤ 199 ∧ kv = .int .i64 k ∧ At wr w.heap.size (num p (bitf a)) ∧ At wr (w.heap.size + 1) (num q (bitf b)) ∧ At wr (w.heap.size + 1 + 1) (num false (fun _ => 0)) ∧ At wr (w.heap.size + 1 + 1 + 1) (num false (fun _ => 0)) ∧ At wr (w.heap.size + 1 + 1 + 1 + 1) (num false (highBits (a / b) (m + 1))) ∧ At wr (w.heap.size + 1 + 1 + 1 + 1 + 1) (num false (shl R k)) ∧ Below w.heap.size w wr) (fun kv _ => (intOf kv).toNat)
      case atStart => exact ⟨199, by omega, rfl, G1.out, G2.out, G3.out, G4.out, G5.out, by rw [← shl_start]; exact G6.out, GB.out⟩
      case round =>
        obtain ⟨k, hk, rfl, h1, h2, h3, h4, h5, h6, hB⟩ := hrel
        clear G1 G2 G3 G4 G5 G6 GB
        cases k with
        | zero =>
          have ca := h1.bit (k := m) (by omega)
          have c0 : wr.cell? ⟨w.heap.size + 1 + 1 + 1 + 1 + 1, 1, none⟩ = some (.int .i64 (shl R 0 0)) := h6.bit (k := 0) (by omega)
          have f0 := h6.free 1
          have hd1 : a / 2 ^ m % 2 ≤ 1 := by have := Nat.mod_lt (a / 2 ^ m) (show 0 < 2 by omega); omega
          have hdb : bitf a m = ((a / 2 ^ m % 2 : Nat) : Int) := rfl
          have x6 : At (wr.setCell ⟨w.heap.size + 1 + 1 + 1 + 1 + 1, 1, none⟩ (.int .i64 (bitf a m))) (w.heap.size + 1 + 1 + 1 + 1 + 1) (num false (bitf (2 * R + a / 2 ^ m % 2))) := by
            have := h6.set (k := 0) (by omega) (bitf a m)
            rw [hdb, shl_end R _ hd1] at this
            rw [hdb]; exact this
          have X1 := Lib.hid (h1.other (.int .i64 (bitf a m)) (a := ⟨w.heap.size + 1 + 1 + 1 + 1 + 1, 1, none⟩) (by dsimp only; omega))
          have X2 := Lib.hid (h2.other (.int .i64 (bitf a m)) (a := ⟨w.heap.size + 1 + 1 + 1 + 1 + 1, 1, none⟩) (by dsimp only; omega))
          have X3 := Lib.hid (h3.other (.int .i64 (bitf a m)) (a := ⟨w.heap.size + 1 + 1 + 1 + 1 + 1, 1, none⟩) (by dsimp only; omega))
          have X4 := Lib.hid (h4.other (.int .i64 (bitf a m)) (a := ⟨w.heap.size + 1 + 1 + 1 + 1 + 1, 1, none⟩) (by dsimp only; omega))
          have X5 := Lib.hid (h5.other (.int .i64 (bitf a m)) (a := ⟨w.heap.size + 1 + 1 + 1 + 1 + 1, 1, none⟩) (by dsimp only; omega))
          have X6 := Lib.hid x6
          have XB := Lib.hid (hB.setCell (p := ⟨w.heap.size + 1 + 1 + 1 + 1 + 1, 1, none⟩) (by dsimp only; omega) (.int .i64 (bitf a m)))
          clear h1 h2 h3 h4 h5 h6 hB x6 hdb
          go_wp2_with (first | (refine load_num X6.out rfl rfl rfl ?_) | (refine load_num X2.out rfl rfl rfl ?_))
          obtain ⟨D, hD⟩ : ∃ D, a / 2 ^ m % 2 = D := ⟨_, rfl⟩
          rw [hD] at hd1 X6 HPl
          rw [hD]
          have HD := Lib.hid hD
          clear hD
          have hRb : 2 * R + D < 2 ^ 200 := by have h1 := HR.out; have h2 := HBb.out; omega
          have hbb : b < 2 ^ 200 := Nat.lt_of_le_of_lt HBb.out (by omega)
          have HRb := Lib.hid hRb
          have Hbb := Lib.hid hbb
          clear hRb hbb ca c0 f0
          refine (bare_any false q (2 * R + D) b HRb.out Hbb.out _).mono ?_
          rintro e w3 ⟨rfl, hB3⟩
          have Y1 := Lib.hid (X1.out.below X1.out.lt hB3)
          have Y2 := Lib.hid (X2.out.below X2.out.lt hB3)
          have Y3 := Lib.hid (X3.out.below X3.out.lt hB3)
          have Y4 := Lib.hid (X4.out.below X4.out.lt hB3)
          have Y5 := Lib.hid (X5.out.below X5.out.lt hB3)
          have Y6 := Lib.hid (X6.out.below X6.out.lt hB3)
          have YB := Lib.hid (XB.out.trans (hB3.mono XB.out.size))
          clear X1 X2 X3 X4 X5 X6 XB hB3
          by_cases hge : b ≤ 2 * R + D
          · have hc : 0 ≤ stand (2 * R + D) b := by unfold stand; rw [if_neg (by omega)]; split <;> omega
            generalize stand (2 * R + D) b = c at *
            go_wp2_with (first | (refine load_num Y6.out rfl rfl rfl ?_) | (refine load_num Y2.out rfl rfl rfl ?_))
            refine (minus_any false q (2 * R + D) b ⟨hge, HRb.out⟩ _).mono ?_
            rintro e w4 ⟨rfl, hB4⟩
            have y1 := Y1.out.below Y1.out.lt hB4
            have y2 := Y2.out.below Y2.out.lt hB4
            have y3 := Y3.out.below Y3.out.lt hB4
            have y4 := Y4.out.below Y4.out.lt hB4
            have y5 := Y5.out.below Y5.out.lt hB4
            have y6 := Y6.out.below Y6.out.lt hB4
            have yB := YB.out.trans (hB4.mono YB.out.size)
            obtain ⟨w5, ew5⟩ : ∃ w5, w4.setRow (w.heap.size + 1 + 1 + 1 + 1 + 1) (num false (bitf (2 * R + D - b))) = w5 := ⟨_, rfl⟩
            have Z1 := Lib.hid (ew5 ▸ y1.rowOther (num false (bitf (2 * R + D - b))) (g := w.heap.size + 1 + 1 + 1 + 1 + 1) (by omega))
            have Z2 := Lib.hid (ew5 ▸ y2.rowOther (num false (bitf (2 * R + D - b))) (g := w.heap.size + 1 + 1 + 1 + 1 + 1) (by omega))
            have Z3 := Lib.hid (ew5 ▸ y3.rowOther (num false (bitf (2 * R + D - b))) (g := w.heap.size + 1 + 1 + 1 + 1 + 1) (by omega))
            have Z4 := Lib.hid (ew5 ▸ y4.rowOther (num false (bitf (2 * R + D - b))) (g := w.heap.size + 1 + 1 + 1 + 1 + 1) (by omega))
            have z5 := ew5 ▸ y5.rowOther (num false (bitf (2 * R + D - b))) (g := w.heap.size + 1 + 1 + 1 + 1 + 1) (by omega)
            have Z6 := Lib.hid (ew5 ▸ y6.row (cs' := num false (bitf (2 * R + D - b))))
            have ZB := Lib.hid (ew5 ▸ below_row yB (g := w.heap.size + 1 + 1 + 1 + 1 + 1) (by omega) (num false (bitf (2 * R + D - b))))
            have c5 := z5.bit (k := m) (by omega)
            have f5 := z5.free (1 + m)
            have Z5 := Lib.hid z5
            have Y6' := Lib.hid y6
            have HW5 := Lib.hid ew5
            clear y1 y2 y3 y4 y5 y6 yB ew5 z5 Y1 Y2 Y3 Y4 Y5 Y6 YB hB4
            go_wp2_with (refine store_num (neg := false) (f := bitf (2 * R + D - b)) Y6'.out rfl rfl rfl rfl ?_; rw [HW5.out])
            go_roundw
            case rel =>
              obtain ⟨e1, e2⟩ := HPl.out.1 hge
              refine ⟨m, by omega, rfl, Z1.out.other _ (by dsimp only; omega), Z2.out.other _ (by dsimp only; omega), Z3.out.other _ (by dsimp only; omega), Z4.out.other _ (by dsimp only; omega), ?_, ?_, ZB.out.setCell (p := ⟨w.heap.size + 1 + 1 + 1 + 1, 1 + m, none⟩) (by dsimp only; omega) _⟩
              · have := Z5.out.set (k := m) (by omega) 1
                rwa [highBits_one e1] at this
              · rw [← e2]; exact Z6.out.other _ (by dsimp only; omega)
            case measure => simp [intOf]
          · have hc : stand (2 * R + D) b < 0 := by rw [stand, if_pos (by omega)]; omega
            generalize stand (2 * R + D) b = c at *
            obtain ⟨e1, e2⟩ := HPl.out.2 hge
            rw [e2] at Y6
            rw [highBits_zero e1] at Y5
            clear hge e1 e2
            go_wp2
            go_roundw
            case rel => exact ⟨m, by omega, by go_num, Y1.out, Y2.out, Y3.out, Y4.out, Y5.out, Y6.out, YB.out⟩
            case measure => simp [intOf]
        | succ k =>
          have c1 := h6.bit (k := k) (by omega)
          have c2 := h6.bit (k := k + 1) (by omega)
          have f2 := h6.free (1 + (k + 1))
          have H1 := Lib.hid h1
          have H2 := Lib.hid h2
          have H3 := Lib.hid h3
          have H4 := Lib.hid h4
          have H5 := Lib.hid h5
          have H6 := Lib.hid h6
          clear h1 h2 h3 h4 h5 h6
          go_wp2
          go_roundw
          case rel =>
            refine ⟨k, by omega, rfl, H1.out.other _ (by dsimp only; omega), H2.out.other _ (by dsimp only; omega), H3.out.other _ (by dsimp only; omega), H4.out.other _ (by dsimp only; omega), H5.out.other _ (by dsimp only; omega), ?_, hB.setCell (p := ⟨w.heap.size + 1 + 1 + 1 + 1 + 1, 1 + (k + 1), none⟩) (by dsimp only; omega) _⟩
            have := H6.out.set (k := k + 1) (by omega) (shl R (k + 1) k)
            rwa [shl_step] at this
          case measure => simp [intOf]
end Go.Proofs.Ytmkmpkajcjdfaaa
