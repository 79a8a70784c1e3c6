/- The contract of the document's plus: the sum of two rows of bits, as long as it has 200 bits at most. -/
import Derived.Test.YthjjlkoddmljbaaDoorRNum
import Derived.Deep.QuietTactic
import Derived.BigQuiet
import Derived.WalkSmall
set_option linter.unusedVariables false
namespace Go.Proofs.YthjjlkoddmljbaaDoor.Ref
open Go.RowKit
theorem At.drewN {W : World} {b : Nat} {cs : Array Value} (h : At W b cs) (n : Nat) : At (W.drewN n) b cs := h
theorem bitf_bd (n k : Nat) : 0 ≤ bitf n k ∧ bitf n k ≤ 1 := by
  have : n / 2 ^ k % 2 < 2 := Nat.mod_lt _ (by omega)
  unfold bitf; omega
theorem div_pow_succ (n k : Nat) : n / 2 ^ (k + 1) = n / 2 ^ k / 2 := by rw [Nat.pow_succ, Nat.div_div_eq_div_mul]
/-- One place of a sum. -/
theorem plus_step {a b s k c : Nat} (h : s / 2 ^ k = a / 2 ^ k + b / 2 ^ k + c) :
    (bitf a k + bitf b k + (c : Int)) % 2 = bitf s k ∧ ∃ c' : Nat, (bitf a k + bitf b k + (c : Int)) / 2 = (c' : Int) ∧ (c ≤ 1 → c' ≤ 1) ∧ s / 2 ^ (k + 1) = a / 2 ^ (k + 1) + b / 2 ^ (k + 1) + c' := by
  unfold bitf
  rw [div_pow_succ, div_pow_succ, div_pow_succ]
  generalize a / 2 ^ k = x at *
  generalize b / 2 ^ k = y at *
  generalize s / 2 ^ k = z at *
  subst h
  refine ⟨by omega, (x % 2 + y % 2 + c) / 2, by omega, by omega, by omega⟩
set_option maxRecDepth 10000 in
set_option maxHeartbeats 1000000 in
theorem plus_any (na nc : Bool) (a b : Nat) (hab : a + b < 2 ^ 200) (w : World) :
    Calls Tryd.prog 44 #[.agg (nb na a), .agg (nb nc b)] w fun e w' => e = .returned (.agg (nb false (a + b))) ∧ Below w.heap.size w w' := by
  have hz := (zero_of_info info42).1
  have HAB := Lib.hid hab
  clear hab
  go_enter Tryd.func44, Tryd.ntmps44
  go_wp2
  go_loopw [6, 7] (fun cv i wr => ∃ k c : Nat, k ≤ 200 ∧ c ≤ 1 ∧ Hid ((a + b) / 2 ^ k = a / 2 ^ k + b / 2 ^ k + c) ∧ cv = .int .i64 c ∧ i = .int .i64 k ∧ At wr w.heap.size (num na (bitf a)) ∧ At wr (w.heap.size + 1) (num nc (bitf b)) ∧ At wr (w.heap.size + 1 + 1) (num false (fun _ => 0)) ∧ At wr (w.heap.size + 1 + 1 + 1) (num false (firstBits (a + b) k)) ∧ Below w.heap.size w wr) (fun _ i _ => 200 - (intOf i).toNat)
  case atStart =>
    have b1 := At.new w (nb na a)
    have b2 := At.new (w.alloc (.cells (nb na a) 73)) (nb nc b)
    have b3 := At.new ((w.alloc (.cells (nb na a) 73)).alloc (.cells (nb nc b) 73)) zeroNum
    have b4 := At.new (((w.alloc (.cells (nb na a) 73)).alloc (.cells (nb nc b) 73)).alloc (.cells zeroNum 73)) zeroNum
    simp only [World.size_alloc] at b2 b3 b4
    exact ⟨0, 0, by omega, by omega, Lib.hid (by simp), rfl, rfl, ((b1.alloc _).alloc _).alloc _, (b2.alloc _).alloc _, b3.alloc _, by rw [← zero_first]; exact b4, ((((Below.refl _ w).alloc (Nat.le_refl _) _).alloc (by simp) _).alloc (by simp; omega) _).alloc (by simp; omega) _⟩
  case round =>
    obtain ⟨k, c, hk, hc, hs, rfl, rfl, h1, h2, h3, h4, hB⟩ := hrel
    by_cases hlt : k < 200
    · have c1 := h1.bit (k := k) hlt
      have c2 := h2.bit (k := k) hlt
      have c4 := h4.bit (k := k) hlt
      have f4 := h4.free (1 + k)
      obtain ⟨x0, x1⟩ := bitf_bd a k
      obtain ⟨y0, y1⟩ := bitf_bd b k
      have H1 := Lib.hid h1
      have H2 := Lib.hid h2
      have H3 := Lib.hid h3
      have H4 := Lib.hid h4
      clear h1 h2 h3 h4
      go_wp2
      go_quiet (fail)
      go_wp2
      go_roundw
      case rel =>
        obtain ⟨e1, c', e2, e3, e4⟩ := plus_step hs.out
        rw [e1, e2]
        refine ⟨k + 1, c', by omega, e3 hc, Lib.hid e4, rfl, by go_num, (H1.out.drewN nq).other _ (by dsimp only; omega), (H2.out.drewN nq).other _ (by dsimp only; omega), (H3.out.drewN nq).other _ (by dsimp only; omega), ?_, (below_drewN hB nq).setCell (p := ⟨w.heap.size + 1 + 1 + 1, 1 + k, none⟩) (by simp; omega) _⟩
        have := (H4.out.drewN nq).set (k := k) hlt (bitf (a + b) k)
        rwa [firstBits_succ] at this
      case measure => simp [intOf]; omega
    · have ek : k = 200 := by omega
      subst ek
      have ef : num false (firstBits (a + b) 200) = num false (bitf (a + b)) := all_first HAB.out (by omega)
      rw [ef] at h4
      have H3 := Lib.hid h3
      have H4 := Lib.hid h4
      clear h1 h2 h3 h4 ef
      go_wp2_with (first | (refine load_num H4.out rfl rfl rfl ?_) | (refine store_num H3.out rfl rfl rfl rfl ?_))
      exact bodyPost_ret (v := .agg (nb false (a + b))) (results_cell_row rfl _ _ (w.heap.size + 1 + 1) _ _ _ _ rfl H3.out.row Tryd.underlying73 rfl (size42 _ _)) rfl ⟨rfl, below_row hB (by omega) _⟩
end Go.Proofs.YthjjlkoddmljbaaDoor.Ref
