/- The document's message: the bytes, padded. -/
import Derived.Test.YtkhhejkemkldgaaDoorSPad
import Derived.Test.YtkhhejkemkldgaaDoorS8
set_option linter.unusedVariables false
set_option linter.unusedSimpArgs false
namespace Go.Proofs.YtkhhejkemkldgaaDoor
open Go.RowKit Go.Shelf
theorem snoc_zero (xs : List Int) (k : Nat) : (xs ++ 128 :: List.replicate k 0) ++ [0] = xs ++ 128 :: List.replicate (k + 1) 0 := by
  rw [List.append_assoc, List.cons_append, ← List.replicate_succ']
def msgAt (xs : List Int) (N j : Nat) : List Int := xs ++ 128 :: (List.replicate (padZeros xs.length) 0 ++ (big8 N).take j)
theorem msgAt_succ (xs : List Int) (N j : Nat) (h : j < 8) : msgAt xs N j ++ [((N / 2 ^ (56 - 8 * j) % 256 : Nat) : Int)] = msgAt xs N (j + 1) := by
  unfold msgAt
  have e : (big8 N).take (j + 1) = (big8 N).take j ++ [((N / 2 ^ (56 - 8 * j) % 256 : Nat) : Int)] := by
    rw [List.take_add_one]
    congr 1
    simp [big8, h]
  rw [e, List.append_assoc, List.cons_append, List.append_assoc]
theorem msgAt_all (xs : List Int) (h : xs.length ≤ 100000000000) : msgAt xs (xs.length * 8) 8 = xs ++ padding xs.length := by
  unfold msgAt padding
  rw [List.take_of_length_le (by simp [big8]), Nat.mod_eq_of_lt (by omega)]
set_option maxRecDepth 100000 in
set_option maxHeartbeats 1000000 in
theorem message_any (A : Option Addr) (xs : List Int) (cb : Nat) (hr : xs.length ≤ 100000000000) (w : World) (hb : Bys8 w.heap.size w (.slice A xs.length cb) xs) :
    Calls Tryd.prog 35 #[.slice A xs.length cb] w fun e w' => ∃ a c, e = .returned (.slice a (xs ++ padding xs.length).length c) ∧ Own8 w.heap.size w' (.slice a (xs ++ padding xs.length).length c) (xs ++ padding xs.length) ∧ Below w.heap.size w w' := by
  have HB := Lib.hid hb
  clear hb
  go_enter Tryd.func35, Tryd.ntmps35
  go_wp2_with (first
    | (at_builtin; refine wpList_bapp8 rfl (.tmp 6) (.tmp 7) rfl w.heap.size (.slice none 0 0) [] rfl (Own8.nil _ w) w.heap.size A xs.length cb xs rfl HB.out (by simp; omega) (Nat.le_refl _) ?_; intro a1 c1 w1 hO1 hB1; have hal : Below w1.heap.size w1 (w1.alloc (.cells #[.int .u8 128] 5)) := (Below.refl _ w1).alloc (Nat.le_refl _) _; have hO1a := hO1.below hal (Nat.le_refl _); have hb1 := bys8_alloc (T := 5) w1 [128] (by simp) #[.int .u8 128] rfl 1 1 rfl (0, 0); have hs1 : w.heap.size ≤ (w1.alloc (.cells #[.int .u8 128] 5)).heap.size := by have := hB1.size; simp; omega)
    | (at_builtin; refine wpList_bapp8 rfl (.tmp 9) (.tmp 10) rfl w.heap.size (.slice a1 ([] ++ xs).length c1) ([] ++ xs) rfl hO1a _ (some ⟨w1.heap.size, 0, none⟩) 1 1 [128] rfl hb1 (by simp; omega) hs1 ?_; intro a2 c2 w2 hO2 hB2)
    | fail)
  have D2 := Lib.hid (hB1.trans ((hal.mono hB1.size).trans hB2))
  rw [List.nil_append] at hO2
  have O2 := Lib.hid hO2
  clear hO2 hB2 hs1 hb1 hO1a hal hO1 hB1
  obtain ⟨z, hz⟩ : ∃ z, padZeros xs.length = z := ⟨_, rfl⟩
  have hzz : z = (119 - xs.length % 64) % 64 := by rw [← hz]; rfl
  obtain ⟨N, hN⟩ : ∃ N, xs.length * 8 = N := ⟨_, rfl⟩
  have HM := Lib.hid (msgAt_all xs hr)
  have HZ := Lib.hid hz
  have HN := Lib.hid hN
  have HZZ := Lib.hid hzz
  clear hzz hz hN
  go_loopw [3] (fun v wr => ∃ (k : Nat) (a : Option Addr) (c : Nat), k ≤ z ∧ v = .slice a (xs.length + 1 + k) c ∧ Own8 w.heap.size wr (.slice a (xs.length + 1 + k) c) (xs ++ 128 :: List.replicate k 0) ∧ Below w.heap.size w wr) (fun v _ => 200000000000 - (match v with | .slice _ n _ => n | _ => 0))
  case atStart => exact ⟨0, a2, c2, Nat.zero_le _, by simp, by have := O2.out; simpa using this, D2.out⟩
  case round =>
    clear O2 D2
    obtain ⟨k, a, c, hk, rfl, hO, hBw⟩ := hrel
    have HW := Lib.hid hBw
    by_cases hlt : k < z
    · have hne : (((xs.length + 1 + k : Nat) : Int) % 64 == 56) = false := by
        have : ¬ ((xs.length + 1 + k : Nat) : Int) % 64 = 56 := by have := HZZ.out; omega
        simpa using this
      have hzb : z < 64 := by have := HZZ.out; omega
      have hal : Below wr.heap.size wr (wr.alloc (.cells #[.int .u8 0] 5)) := (Below.refl _ wr).alloc (Nat.le_refl _) _
      have hOa := hO.below hal (Nat.le_refl _)
      have hb1 := bys8_alloc (T := 5) wr [0] (by simp) #[.int .u8 0] rfl 1 1 rfl (0, 0)
      have hs1 : w.heap.size ≤ (wr.alloc (.cells #[.int .u8 0] 5)).heap.size := by have := HW.out.size; simp; omega
      have HAL := Lib.hid hal
      clear hBw hO hal
      go_wp2_with (first
        | (at_builtin; refine wpList_bapp8 rfl (.tmp 16) (.tmp 17) rfl w.heap.size _ (xs ++ 128 :: List.replicate k 0) rfl hOa _ (some ⟨wr.heap.size, 0, none⟩) 1 1 [0] rfl hb1 (by simp; omega) hs1 ?_; intro a3 c3 w3 hO3 hB3; rw [snoc_zero] at hO3)
        | fail)
      have hl : (xs ++ 128 :: List.replicate (k + 1) 0).length = xs.length + 1 + (k + 1) := by simp; omega
      rw [hl] at hO3
      have O3 := Lib.hid hO3
      have D3 := Lib.hid (HW.out.trans ((HAL.out.mono HW.out.size).trans hB3))
      clear hO3 hB3 hOa hb1 hs1
      rw [show xs.length + (k + 1 + 1) = xs.length + 1 + (k + 1) by omega]
      exact ⟨⟨k + 1, a3, c3, by omega, rfl, O3.out, D3.out⟩, by simp; omega⟩
    · obtain rfl : k = z := by omega
      have heq : (((xs.length + 1 + k : Nat) : Int) % 64 == 56) = true := by
        have : ((xs.length + 1 + k : Nat) : Int) % 64 = 56 := by have := HZZ.out; omega
        simpa using this
      have hNi : (xs.length : Int) * 8 = (N : Int) := by have := HN.out; omega
      have hkb : k < 64 := by have := HZZ.out; omega
      have hO0 : Own8 w.heap.size wr (.slice a (xs.length + 1 + k + 0) c) (msgAt xs N 0) := by
        unfold msgAt; rw [HZ.out, List.take_zero, List.append_nil]; exact hO
      have O0 := Lib.hid hO0
      have hNb : N ≤ 800000000000 := by have := HN.out; omega
      clear hO hBw hO0
      have e56 : ((xs.length : Int) + 1 + (k : Int)) % 64 = 56 := by
        have := HZZ.out
        omega
      have HNE2 := Lib.hid (show (((xs.length : Int) + 1 + (k : Int)) % 64 != 56) = false from by simp [e56])
      clear e56
      go_wp2
      clear heq
      go_loopw [3, 5] (fun v iv wx => ∃ (j : Nat) (a : Option Addr) (c : Nat) (iz : Int), j ≤ 8 ∧ iz = 7 - (j : Int) ∧ iv = .int .i64 iz ∧ v = .slice a (xs.length + 1 + k + j) c ∧ Own8 w.heap.size wx (.slice a (xs.length + 1 + k + j) c) (msgAt xs N j) ∧ Below w.heap.size w wx) (fun _ iv _ => (intOf iv + 1).toNat)
      case atStart => exact ⟨0, a, c, 7, by omega, by omega, rfl, rfl, O0.out, HW.out⟩
      case round =>
        clear O0 HW
        obtain ⟨j, a, c, iz, hj, hiz, rfl, rfl, hO, hBx⟩ := hrel
        have HX := Lib.hid hBx
        by_cases hj8 : j < 8
        · obtain ⟨q, rfl⟩ : ∃ q : Nat, iz = (q : Int) := ⟨7 - j, by omega⟩
          have hB0 : 0 ≤ (N : Int) / 2 ^ (8 * (7 - j)) % 256 ∧ (N : Int) / 2 ^ (8 * (7 - j)) % 256 < 256 := by omega
          have hBe : (N : Int) / 2 ^ (8 * (7 - j)) % 256 = ((N / 2 ^ (56 - 8 * j) % 256 : Nat) : Int) := by
            rw [show 8 * (7 - j) = 56 - 8 * j by omega]; simp
          have HS := Lib.hid (msgAt_succ xs N j hj8)
          have HBE := Lib.hid hBe
          have hal : Below wr.heap.size wr (wr.alloc (.cells #[.int .u8 ((N : Int) / 2 ^ (8 * (7 - j)) % 256)] 5)) := (Below.refl _ wr).alloc (Nat.le_refl _) _
          have hOa := hO.below hal (Nat.le_refl _)
          have hb1 := bys8_alloc (T := 5) wr [(N : Int) / 2 ^ (8 * (7 - j)) % 256] (by intro x hx; simp at hx; subst hx; exact hB0) #[.int .u8 ((N : Int) / 2 ^ (8 * (7 - j)) % 256)] rfl 1 1 rfl (0, 0)
          have hs1 : w.heap.size ≤ (wr.alloc (.cells #[.int .u8 ((N : Int) / 2 ^ (8 * (7 - j)) % 256)] 5)).heap.size := by have := HX.out.size; simp; omega
          have hml : (msgAt xs N j).length + 1 ≤ 10000000000000 := by unfold msgAt; rw [HZ.out]; simp; omega
          have HAL := Lib.hid hal
          clear hBx hO hal hBe
          go_wp2_with (first
            | (at_builtin; refine wpList_bapp8 rfl (.tmp 27) (.tmp 33) rfl w.heap.size _ (msgAt xs N j) rfl hOa _ (some ⟨wr.heap.size, 0, none⟩) 1 1 [(N : Int) / 2 ^ (8 * (7 - j)) % 256] rfl hb1 hml hs1 ?_; intro a3 c3 w3 hO3 hB3)
            | fail)
          have hl1 : ∀ j, j ≤ 8 → (msgAt xs N j).length = xs.length + 1 + k + j := fun j hj => by unfold msgAt; rw [HZ.out]; simp [big8]; omega
          rw [hl1 j (by omega)]
          rw [HBE.out, HS.out, hl1 (j + 1) (by omega)] at hO3
          have O3 := Lib.hid hO3
          have D3 := Lib.hid (HX.out.trans ((HAL.out.mono HX.out.size).trans hB3))
          clear hO3 hB3 hOa hb1 hs1 hml hl1
          rw [HNE2.out]
          refine ⟨⟨_, _, _, _, _, _, _, _, _, _, _, _, _, _, ⟨j + 1, a3, c3, 7 - (j : Int) - 1, by omega, by omega, rfl, rfl, O3.out, D3.out⟩, rfl⟩, ?_⟩
          simp [intOf]; omega
        · obtain rfl : j = 8 := by omega
          obtain rfl : iz = -1 := by omega
          have hl : xs.length + 1 + k + 8 = (xs ++ padding xs.length).length := by rw [List.length_append, padding_length, HZ.out]; omega
          rw [← HN.out, HM.out, hl] at hO
          rw [hl]
          have O8 := Lib.hid hO
          clear hO hBx
          go_wp2
          go_ret
          exact ⟨a, c, rfl, O8.out, HX.out⟩
end Go.Proofs.YtkhhejkemkldgaaDoor
