/- The contract of the document's Bare: how two rows of bits stand, as -1, 0 or 1. -/
import Derived.Test.YthjjlkoddmljbaaDoorRPlus
set_option linter.unusedVariables false
namespace Go.Proofs.YthjjlkoddmljbaaDoor.Ref
open Go.RowKit
/-- How two numbers stand. -/
def stand (a b : Nat) : Int := if a < b then -1 else if a = b then 0 else 1
theorem stand_bd (a b : Nat) : -1 ≤ stand a b ∧ stand a b ≤ 1 := by unfold stand; split <;> (try split) <;> omega
/-- Going down: what is above place m is alike; at place m the bits decide. -/
theorem bare_step {a b m : Nat} (h : a / 2 ^ (m + 1) = b / 2 ^ (m + 1)) :
    (bitf a m = bitf b m → a / 2 ^ m = b / 2 ^ m) ∧ (bitf a m ≠ bitf b m → bitf a m - bitf b m = stand a b) := by
  have ha := div_pow_succ a m
  have hb := div_pow_succ b m
  have key : bitf a m ≠ bitf b m → (bitf a m < bitf b m → a < b) ∧ (bitf b m < bitf a m → b < a) := by
    intro hne
    constructor
    · intro hlt
      have hq : a / 2 ^ m < b / 2 ^ m := by
        unfold bitf at hlt; omega
      exact Nat.lt_of_not_le fun hle => absurd (Nat.div_le_div_right (c := 2 ^ m) hle) (by omega)
    · intro hlt
      have hq : b / 2 ^ m < a / 2 ^ m := by
        unfold bitf at hlt; omega
      exact Nat.lt_of_not_le fun hle => absurd (Nat.div_le_div_right (c := 2 ^ m) hle) (by omega)
  constructor
  · intro he
    unfold bitf at he; omega
  · intro hne
    obtain ⟨k1, k2⟩ := key hne
    have ba := bitf_bd a m
    have bb := bitf_bd b m
    rcases Int.lt_or_gt_of_ne hne with hlt | hgt
    · have := k1 hlt
      rw [stand, if_pos this]; omega
    · have := k2 hgt
      rw [stand, if_neg (by omega), if_neg (by omega)]; omega
set_option maxRecDepth 10000 in
set_option maxHeartbeats 1000000 in
theorem bare_any (na nc : Bool) (a b : Nat) (ha : a < 2 ^ 200) (hb : b < 2 ^ 200) (w : World) :
    Calls Tryd.prog 37 #[.agg (nb na a), .agg (nb nc b)] w fun e w' => e = .returned (.int .i64 (stand a b)) ∧ Below w.heap.size w w' := by
  have h00 : a / 2 ^ 200 = b / 2 ^ 200 := by rw [Nat.div_eq_of_lt ha, Nat.div_eq_of_lt hb]
  have HA := Lib.hid h00
  clear ha hb h00
  go_enter Tryd.func37, Tryd.ntmps37
  go_wp2
  go_loopw [5] (fun i wr => ∃ m : Nat, m ≤ 200 ∧ Hid (a / 2 ^ m = b / 2 ^ m) ∧ i = .int .i64 ((m : Int) - 1) ∧ At wr w.heap.size (num na (bitf a)) ∧ At wr (w.heap.size + 1) (num nc (bitf b)) ∧ Below w.heap.size w wr) (fun i _ => (intOf i + 1).toNat)
  case atStart =>
    have b1 := At.new w (nb na a)
    have b2 := At.new (w.alloc (.cells (nb na a) 73)) (nb nc b)
    simp only [World.size_alloc] at b2
    exact ⟨200, by omega, HA, rfl, b1.alloc _, b2, ((Below.refl _ w).alloc (Nat.le_refl _) _).alloc (by simp) _⟩
  case round =>
    obtain ⟨m, hm, hs, rfl, h1, h2, hB⟩ := hrel
    cases m with
    | zero =>
      have hab : a = b := by simpa using hs.out
      go_wp2
      go_ret
      exact ⟨by rw [stand, if_neg (by omega), if_pos hab]; rfl, hB⟩
    | succ m =>
      have c1 := h1.bit (k := m) (by omega)
      have c2 := h2.bit (k := m) (by omega)
      obtain ⟨x0, x1⟩ := bitf_bd a m
      obtain ⟨y0, y1⟩ := bitf_bd b m
      have H1 := Lib.hid h1
      have H2 := Lib.hid h2
      have HS := Lib.hid (bare_step hs.out)
      clear h1 h2
      have e1 : (((m + 1 : Nat) : Int) - 1) = (m : Int) := by omega
      rw [e1]
      clear e1
      by_cases hn : bitf a m = bitf b m
      · have hn2 : (bitf a m != bitf b m) = false := by simpa using hn
        have HN := Lib.hid hn
        clear hn
        go_wp2
        go_quiet (fail)
        go_wp2
        go_roundw
        case rel => exact ⟨m, by omega, Lib.hid (HS.out.1 HN.out), rfl, H1.out.drewN _, H2.out.drewN _, below_drewN hB _⟩
        case measure => simp [intOf]
      · have hn2 : (bitf a m != bitf b m) = true := by simpa using hn
        have HN := Lib.hid hn
        clear hn
        go_wp2
        go_quiet (fail)
        go_wp2
        go_quiet (fail)
        go_wp2
        go_ret
        refine ⟨?_, ?_⟩
        · rw [← HS.out.2 HN.out]; rfl
        · exact below_drewN (below_drewN hB _) _
end Go.Proofs.YthjjlkoddmljbaaDoor.Ref
