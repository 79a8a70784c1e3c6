/- The walk of the statement ShaRoots. -/
import Derived.Test.YthjjlkoddmljbaaDoorRWalk
set_option linter.unusedVariables false
set_option linter.unusedSimpArgs false
namespace Go.Proofs.YthjjlkoddmljbaaDoor
open Go.RowKit
/-- What stands at every round's head: the document's constants; the rest as it was. -/
def RI (w : World) (gr gf : Nat) (W : World) : Prop := Tab W gr (nums .u32 64 (wf roots)) ∧ Tab W gf (nums .u32 8 (wf initial)) ∧ Below w.heap.size w W
theorem RI.below {w : World} {gr gf : Nat} {W X : World} (h : RI w gr gf W) (hb : Below W.heap.size W X) : RI w gr gf X :=
  ⟨h.1.of (hb.block gr h.1.lt), h.2.1.of (hb.block gf h.2.1.lt), h.2.2.trans (hb.mono h.2.2.size)⟩
set_option maxRecDepth 100000 in
set_option maxHeartbeats 4000000 in
theorem roots_any (w : World) (hT : Tabs w) :
    Calls Tryd.prog 5 #[] w fun e w' => e = .returned (.bool true) ∧ Below w.heap.size w w' := by
  go_enter Tryd.func5, Tryd.ntmps5
  go_wp2_with fail
  refine (alive_any w hT).mono ?_
  rintro e w1 ⟨rfl, hB1⟩
  have D1 := Lib.hid hB1
  clear hB1 hT
  go_wp2_with fail
  refine (const_any w1).mono ?_
  rintro e w2 ⟨rfl, hC, hB2⟩
  have D2 := Lib.hid (D1.out.trans (hB2.mono D1.out.size))
  have HC := Lib.hid hC
  clear hB2 D1 hC
  go_wp2_with fail
  refine (first_any w2).mono ?_
  rintro e w3 ⟨rfl, hF, hB3⟩
  have hI : RI w w1.heap.size w2.heap.size w3 := ⟨HC.out.of (hB3.block _ HC.out.lt), hF, D2.out.trans (hB3.mono D2.out.size)⟩
  have HI := Lib.hid hI
  clear hB3 D2 HC hF hI
  generalize w1.heap.size = gr at *
  generalize w2.heap.size = gf at *
  go_wp2_with fail
  go_loopw [4, 5] (fun iv nv wr => ∃ n : Nat, 2 ≤ n ∧ n ≤ 312 ∧ iv = .int .i64 (cnt n : Nat) ∧ nv = .int .u64 n ∧ RI w gr gf wr) (fun _ nv _ => 312 - (intOf nv).toNat)
  case atStart => exact ⟨2, by omega, by omega, by first | rfl | decide, by go_num, HI.out⟩
  case round =>
    clear HI
    obtain ⟨n, hn2, hn, rfl, rfl, hI⟩ := hrel
    have HI := Lib.hid hI
    clear hI
    by_cases hlt : n < 312
    · obtain ⟨f1, f2, f3⟩ := facts ⟨n, hlt⟩
      simp only [show decide (2 ≤ n) = true by simpa using hn2, Bool.true_and] at f1 f2 f3
      have g2 := facts2 ⟨n, hlt⟩
      have F2 := Lib.hid f2
      have F3 := Lib.hid f3
      have G2 := Lib.hid g2
      obtain ⟨c, hc⟩ : ∃ c, cnt n = c := ⟨_, rfl⟩
      rw [hc] at f1 F2 F3 ⊢
      have HCN := Lib.hid hc
      clear f2 f3 g2 hc
      go_wp2
      obtain ⟨wo, hwo⟩ : ∃ wo : World, wo = wr := ⟨_, rfl⟩
      rw [← hwo] at HI
      rw [← hwo]
      clear hwo
      go_loopw [6, 7] (fun bv dv wx => ∃ d : Nat, 2 ≤ d ∧ d ≤ 19 ∧ ((d - 1) * (d - 1) ≤ n ∨ d = 2) ∧ dv = .int .u64 d ∧ bv = .bool (upTo n d) ∧ RI w gr gf wx) (fun _ dv _ => 20 - (intOf dv).toNat)
      case atStart => exact ⟨2, by omega, by omega, .inr rfl, by go_num, by congr 1, HI.out⟩
      case round =>
        clear HI
        obtain ⟨d, hd2, hd19, hdd, rfl, rfl, hI⟩ := hrel
        have HI := Lib.hid hI
        have HDD := Lib.hid hdd
        clear hI hdd
        have hq : d * d ≤ 361 := Nat.mul_le_mul hd19 hd19
        have hcast : (d : Int) * (d : Int) = ((d * d : Nat) : Int) := by rw [Int.natCast_mul]
        have hd0 : (d : Int) ≠ 0 := by omega
        by_cases hle : d * d ≤ n
        · have hd18 : d ≤ 18 := by
            rcases Nat.lt_or_ge d 19 with h | h
            · omega
            · have := Nat.mul_le_mul h h; omega
          have HUS := Lib.hid (upTo_succ n d hd2)
          obtain ⟨q, hqq⟩ : ∃ q, d * d = q := ⟨_, rfl⟩
          have HQ := Lib.hid hqq
          rw [hqq] at hq hcast hle
          have hw : IntKind.u64.wrap ((d : Int) * (d : Int)) = (q : Int) := by rw [hcast, IntKind.wrap_u64]; omega
          clear hqq
          by_cases hm : n % d = 0
          · have hmb : ((n : Int) % (d : Int) == 0) = true := by
              have : (n : Int) % (d : Int) = 0 := by omega
              simpa using this
            go_wp2
            go_roundw
            case rel => exact ⟨d + 1, by omega, by omega, .inl (by rw [Nat.add_sub_cancel, HQ.out]; exact hle), by go_num, by rw [HUS.out, hm]; simp, HI.out⟩
            case measure => simp [intOf]; omega
          · have hmb : ((n : Int) % (d : Int) == 0) = false := by
              have : ¬ (n : Int) % (d : Int) = 0 := by omega
              simpa using this
            go_wp2
            go_roundw
            case rel => exact ⟨d + 1, by omega, by omega, .inl (by rw [Nat.add_sub_cancel, HQ.out]; exact hle), by go_num, by rw [HUS.out]; simp [hm], HI.out⟩
            case measure => simp [intOf]; omega
        · have hup := G2.out ⟨d, by omega⟩ hd2 (by simpa using hle) HDD.out
          simp only at hup
          rw [hup]
          have hw : IntKind.u64.wrap ((d : Int) * (d : Int)) = ((d * d : Nat) : Int) := by rw [hcast, IntKind.wrap_u64]; omega
          have hgt : n < d * d := by omega
          obtain ⟨q, hqq⟩ : ∃ q, d * d = q := ⟨_, rfl⟩
          rw [hqq] at hq hcast hgt hw
          clear hup hle hqq
          by_cases hp : isP n = true
          · obtain ⟨k1, k2⟩ := F3.out hp
            obtain ⟨i0, a1, a2, a3⟩ := okB_spec k1
            have hr := fun W => Ref.root_true n (roots.getD c 0) i0 (by omega) (roots_word c) a1 a2 a3 W
            have cR := HI.out.1.num c f1
            rw [show wf roots c = ((roots.getD c 0 : Nat) : Int) from rfl] at cR
            obtain ⟨x, hx⟩ : ∃ x, roots.getD c 0 = x := ⟨_, rfl⟩
            have hxw := roots_word c
            rw [hx] at hr cR hxw
            have HR := Lib.hid hr
            have K2 := Lib.hid k2
            have FN := Lib.hid (show cnt (n + 1) = c + 1 by have := F2.out; rw [if_pos hp] at this; exact this)
            clear hr k1 k2 a3 hx
            by_cases h8 : c < 8
            · obtain ⟨j0, b1, b2, b3⟩ := okB_spec (K2.out h8)
              have hs := fun W => Ref.root_false n (initial.getD c 0) j0 (by omega) (initial_words c) b1 b2 b3 W
              obtain ⟨y, hy⟩ : ∃ y, initial.getD c 0 = y := ⟨_, rfl⟩
              rw [hy] at hs
              have HS := Lib.hid hs
              have HY := Lib.hid hy
              clear hs b3 hy
              go_wp2_with fail
              refine (HR.out _).mono ?_
              rintro e wA ⟨rfl, hBA⟩
              have HIA := Lib.hid (HI.out.below hBA)
              have cF := HIA.out.2.1.num c h8
              rw [show wf initial c = ((initial.getD c 0 : Nat) : Int) from rfl, HY.out] at cF
              clear hBA cR HI
              go_wp2_with fail
              refine (HS.out _).mono ?_
              rintro e wB ⟨rfl, hBB⟩
              have HIB := Lib.hid (HIA.out.below hBB)
              clear hBB cF HIA
              go_wp2
              go_roundw
              case rel => exact ⟨n + 1, by omega, by omega, by rw [FN.out]; go_num, by go_num, HIB.out⟩
              case measure => simp [intOf]; omega
            · go_wp2_with fail
              refine (HR.out _).mono ?_
              rintro e wA ⟨rfl, hBA⟩
              have HIA := Lib.hid (HI.out.below hBA)
              clear hBA cR HI
              go_wp2
              go_roundw
              case rel => exact ⟨n + 1, by omega, by omega, by rw [FN.out]; go_num, by go_num, HIA.out⟩
              case measure => simp [intOf]; omega
          · have hpf : isP n = false := by simpa using hp
            have FN := Lib.hid (show cnt (n + 1) = c by have := F2.out; rw [if_neg hp] at this; exact this)
            rw [hpf]
            go_wp2
            go_roundw
            case rel => exact ⟨n + 1, by omega, by omega, by rw [FN.out], by go_num, HI.out⟩
            case measure => simp [intOf]; omega
    · obtain rfl : n = 312 := by omega
      rw [cnt_last]
      go_wp2
      go_ret
      exact ⟨rfl, HI.out.2.2⟩
end Go.Proofs.YthjjlkoddmljbaaDoor
