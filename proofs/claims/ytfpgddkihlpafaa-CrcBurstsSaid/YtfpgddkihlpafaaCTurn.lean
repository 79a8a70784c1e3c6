/- The law's turned: bits of bytes turned in new memory. -/
import Derived.Test.YtfpgddkihlpafaaCBurst
import Derived.BigRegion
import Derived.Deep.RegionHeld3
set_option linter.unusedVariables false
namespace Go.Proofs.Ytfpgddkihlpafaa
open Go.RowKit Go.Shelf
theorem Own.rowed {base n cap : Nat} {a : Option Addr} {w : World} {xs : List Int} (h : Own base w (.slice a n cap) xs) (hn : 0 < n) : ∃ g, a = some ⟨g, 0, none⟩ ∧ base ≤ g ∧ g < w.heap.size ∧ n ≤ cap ∧ xs.length = n ∧ Row g n (fun j => xs.getD j 0) w := by
  have hc := h.cap
  obtain ⟨a', c', e⟩ := h.form
  have hl : n = xs.length := by cases e; rfl
  rcases h.2.2 with ⟨e, hx⟩ | ⟨g', cap', cur, e, hg, hb, hn', hm, hs, ht⟩
  · cases e; omega
  · cases e
    refine ⟨g', rfl, hg, (Array.getElem?_eq_some_iff.1 hb).1, hc, rfl, ?_⟩
    intro j hj
    have e1 := vals_get xs j hj
    rw [← ht, Nat.mul_one, List.getElem?_take_of_lt hj] at e1
    exact ⟨by simp only [World.cell?, hb]; simpa using e1, by simp [World.frozen?, hb]⟩
/-- The bits below i alone. -/
def turnI (i at_ m j : Nat) : Bool := decide (at_ ≤ j) && (decide (j - at_ < i) && m.testBit (j - at_))
/-- The bytes f 0 .. f (n - 1) are zs, of which the bits of m below i are turned. -/
def Half (zs : List Int) (n at_ m i : Nat) (f : Nat → Int) : Prop := (∀ j, j < n → 0 ≤ f j ∧ f j < 256) ∧ ∀ j, j < 8 * n → (f (j / 8)).toNat.testBit (j % 8) = (bitAt zs j ^^ turnI i at_ m j)
theorem turnI_skip (i at_ m j : Nat) (h : m.testBit i = false) : turnI (i + 1) at_ m j = turnI i at_ m j := by
  unfold turnI
  by_cases e : j - at_ = i
  · rw [e, h]; simp
  · rw [show decide (j - at_ < i + 1) = decide (j - at_ < i) from decide_eq_decide.2 (by omega)]
theorem turnI_set (i at_ m j : Nat) (h : m.testBit i = true) : turnI (i + 1) at_ m j = (turnI i at_ m j ^^ decide (at_ + i = j)) := by
  unfold turnI
  by_cases e : at_ + i = j
  · subst e
    rw [Nat.add_sub_cancel_left, h]
    simp
  · rw [decide_eq_false e, Bool.xor_false]
    by_cases h1 : at_ ≤ j
    · rw [show decide (j - at_ < i + 1) = decide (j - at_ < i) from decide_eq_decide.2 (by omega)]
    · rw [decide_eq_false h1, Bool.false_and, Bool.false_and]
theorem Half.skip {zs : List Int} {n at_ m i : Nat} {f : Nat → Int} (h : Half zs n at_ m i f) (hm : m.testBit i = false) : Half zs n at_ m (i + 1) f :=
  ⟨h.1, fun j hj => by rw [turnI_skip i at_ m j hm]; exact h.2 j hj⟩
theorem Half.set {zs : List Int} {n at_ m i : Nat} {f : Nat → Int} (h : Half zs n at_ m i f) (hm : m.testBit i = true) (hp : at_ + i < 8 * n) (v : Int) (hv : v = (((f ((at_ + i) / 8)).toNat ^^^ 2 ^ ((at_ + i) % 8) : Nat) : Int)) :
    Half zs n at_ m (i + 1) (fun j => if j = (at_ + i) / 8 then v else f j) := by
  have h8 : 2 ^ ((at_ + i) % 8) < 2 ^ 8 := Nat.pow_lt_pow_right (by decide) (by omega)
  constructor
  · intro j hj
    by_cases e : j = (at_ + i) / 8
    · simp only [e, if_true]
      rw [hv]
      have := h.1 ((at_ + i) / 8) (by omega)
      have := Nat.xor_lt_two_pow (n := 8) (x := (f ((at_ + i) / 8)).toNat) (by omega) h8
      omega
    · simp only [e, if_false]
      exact h.1 j hj
  · intro j hj
    rw [turnI_set i at_ m j hm]
    by_cases e : j / 8 = (at_ + i) / 8
    · simp only [e, if_true]
      have := h.2 j hj
      rw [e] at this
      rw [hv, Int.toNat_natCast, Nat.testBit_xor, this, Nat.testBit_two_pow, Bool.xor_assoc]
      congr 2
      exact decide_eq_decide.2 (by omega)
    · simp only [e, if_false]
      rw [h.2 j hj, decide_eq_false (fun q : at_ + i = j => e (by rw [q])), Bool.xor_false]
theorem Half.start {zs : List Int} {n at_ m : Nat} (hz : ∀ x ∈ zs, 0 ≤ x ∧ x < 256) (hl : zs.length = n) : Half zs n at_ m 0 (fun j => zs.getD j 0) := by
  constructor
  · intro j hj
    exact hz _ (by simp [List.getD, show j < zs.length by omega])
  · intro j hj
    simp [turnI, bitAt]
theorem Half.diff {zs : List Int} {n at_ m : Nat} {f : Nat → Int} (h : Half zs n at_ m 64 f) (hl : zs.length = n) (hat : at_ < 8 * n) (hm0 : m ≠ 0) (hm : m < 4294967296) (hb : ∀ t, t < 64 → m.testBit t = true → at_ + t < 8 * n) : Diff zs (upto f n) m := by
  have h32 : ∀ t, 64 ≤ t → m.testBit t = false := fun t ht => Nat.testBit_lt_two_pow (Nat.lt_of_lt_of_le hm (Nat.le_trans (by decide : 4294967296 ≤ 2 ^ 64) (Nat.pow_le_pow_right (by decide) ht)))
  refine ⟨at_, by rw [hl]; exact hat, hm0, ?_, ?_⟩
  · rw [hl]
    refine Nat.lt_pow_two_of_testBit _ fun t ht => ?_
    by_cases h6 : t < 64
    · by_cases hq : m.testBit t = true
      · have := hb t h6 hq; omega
      · simpa using hq
    · exact h32 t (by omega)
  · rw [hl]
    intro j hj
    have e : (upto f n).getD (j / 8) 0 = f (j / 8) := by simp [upto, List.getD, show j / 8 < n by omega]
    have := h.2 j hj
    unfold bitAt at this ⊢
    rw [e, this]
    congr 1
    unfold turnI turn
    by_cases h6 : j - at_ < 64
    · rw [decide_eq_true h6, Bool.true_and]
    · rw [h32 _ (by omega), Bool.and_false]
theorem wraps_u64 (n : Int) (h₀ : 0 ≤ n) (h₁ : n < 2 ^ 64) : IntKind.u64.wrap n = n := by rw [IntKind.wrap_u64]; omega
theorem bit_64 (m k : Nat) (hm : m < 18446744073709551616) : bits .and .u64 ((m : Int) / (2 : Int) ^ k) 1 = bv (m.testBit k) := by
  have e1 : ((m : Int) / (2 : Int) ^ k) = ((m / 2 ^ k : Nat) : Int) := by
    rw [Int.natCast_ediv]; simp
  have hlt : m / 2 ^ k < 2 ^ 64 := Nat.lt_of_le_of_lt (Nat.div_le_self _ _) hm
  rw [e1]
  have := (bits_nat .u64 64 (by decide) wraps_u64 (m / 2 ^ k) 1 hlt (by decide)).1
  rw [show ((1 : Nat) : Int) = 1 from rfl] at this
  rw [this, Nat.and_one_is_mod]
  simp only [Nat.testBit_eq_decide_div_mod_eq, bv]
  have := Nat.mod_lt (m / 2 ^ k) (show 0 < 2 by decide)
  by_cases h : m / 2 ^ k % 2 = 1
  · simp [h]
  · have : m / 2 ^ k % 2 = 0 := by omega
    simp [this]
def Turned (zs : List Int) (n m : Nat) (w : World) (e : Ending) (w' : World) : Prop :=
  (∃ v, e = .returned (.tuple #[v, .bool false]) ∧ Below w.heap.size w w') ∨
  ∃ g c f, e = .returned (.tuple #[.slice (some ⟨g, 0, none⟩) n c, .bool true]) ∧ w.heap.size ≤ g ∧ g < w'.heap.size ∧ n ≤ c ∧ Row g n f w' ∧ (∀ j, j < n → 0 ≤ f j ∧ f j < 256) ∧ Diff zs (upto f n) m ∧ Below w.heap.size w w'
set_option maxRecDepth 100000 in
set_option maxHeartbeats 4000000 in
theorem turned_any (a : Option Addr) (n c : Nat) (zs : List Int) (hn : 0 < n) (hl : n ≤ 2000) (from_ : Nat) (hf : from_ < 4294967296) (m : Nat) (hm : m < 4294967296) (w : World) (hI : Bys w.heap.size w (.slice a n c) zs) :
    Calls Try.prog 5 #[.slice a n c, .int .u32 from_, .int .u64 m] w (Turned zs n m w) := by
  obtain ⟨a', c', e⟩ := hI.is
  have hzl : zs.length = n := by cases e; rfl
  clear e
  have hO := Own.empty w
  have hB1 : Below w.heap.size w (w.alloc (.cells #[] 5)) := (Below.refl _ _).alloc (Nat.le_refl _) _
  have HZL := Lib.hid hzl
  have HI := Lib.hid hI
  have HM := Lib.hid hm
  clear hzl hI hm
  have s1 : IntKind.i64.wrap (8 * (n : Int)) = 8 * (n : Int) := IntWalk.i64_in _ (by omega)
  have s2 : IntKind.u32.wrap (8 * (n : Int)) = 8 * (n : Int) := by rw [IntKind.wrap_u32]; omega
  have s3 : ¬ (8 * (n : Int) = 0) := by omega
  have s4 : (8 * (n : Int) == 0) = false := by simp; omega
  go_enter Try.func5, Try.ntmps5
  go_wp2_with (at_builtin; refine wpList_bapp rfl (.tmp 12) (.tmp 13) rfl w.heap.size _ [] rfl hO w.heap.size a n c zs rfl (HI.out.below hB1) (by simp [HZL.out]; omega) (by simp) ?_; intro a2 c2' w2 hO2 hB2)
  have hO2' : Own w.heap.size w2 (.slice a2 n c2') zs := by simpa [HZL.out] using hO2
  have hBB : Below w.heap.size w w2 := hB1.trans hB2
  obtain ⟨g, rfl, hg1, hg2, hc2, hl2, hR⟩ := hO2'.rowed hn
  clear hO hO2 hO2' hB1 hB2 hl2
  obtain ⟨at_, hat⟩ : ∃ at_, from_ % (8 * n) = at_ := ⟨_, rfl⟩
  have hat8 : at_ < 8 * n := by rw [← hat]; exact Nat.mod_lt _ (by omega)
  have s5 : wrap64 ((from_ : Int) % (8 * (n : Int))) = (at_ : Int) := by
    have e : (from_ : Int) % (8 * (n : Int)) = (at_ : Int) := by rw [← hat, Int.natCast_emod]; simp
    rw [e]
    exact IntWalk.wrap64_in (at_ : Int) (by omega)
  rw [HZL.out, s5]
  clear s5 hat hf
  go_loopw [10, 11] (fun q i wr => ∃ (k y : Nat) (f : Nat → Int), k ≤ 64 ∧ i = .int .i64 k ∧ q = .int .i64 y ∧ y ≤ k ∧ (y = 0 → ∀ t, t < k → m.testBit t = false) ∧ (0 < y → m ≠ 0) ∧ Half zs n at_ m k f ∧ (∀ t, t < k → m.testBit t = true → at_ + t < 8 * n) ∧ Row g n f wr ∧ g < wr.heap.size ∧ Below w.heap.size w wr) (fun _ i _ => 64 - (intOf i).toNat)
  case atStart => exact ⟨0, 0, _, by omega, rfl, rfl, Nat.le_refl _, (fun _ t ht => by omega), (fun h => by omega), Half.start HI.out.1 HZL.out, (fun t ht => by omega), hR, hg2, hBB⟩
  case round =>
    clear hR hg2 hBB
    obtain ⟨k, y, f, hk, rfl, rfl, hyk, hy0, hy1, hH, hbs, hR, hg2, hB⟩ := hrel
    by_cases hlt : k < 64
    · have hv := bit_64 m k (by have := HM.out; omega)
      cases hb : m.testBit k with
      | false =>
        rw [hb] at hv
        simp only [bv] at hv
        have H0 := Lib.hid hy0
        have H1 := Lib.hid hy1
        have H2 := Lib.hid (hH.skip hb)
        have H3 := Lib.hid hbs
        have H4 := Lib.hid hR
        have H5 := Lib.hid hB
        have HB := Lib.hid hb
        clear hy0 hy1 hH hbs hR hB hb
        go_wp2
        go_roundw
        case rel => exact ⟨k + 1, y, f, by omega, by go_num, rfl, by omega, (fun h t ht => by
            rcases Nat.lt_or_ge t k with h9 | h9
            · exact H0.out h t h9
            · obtain rfl : t = k := by omega
              exact HB.out), H1.out, H2.out, (fun t ht h => by
            rcases Nat.lt_or_ge t k with h9 | h9
            · exact H3.out t h9 h
            · obtain rfl : t = k := by omega
              rw [HB.out] at h; cases h), H4.out, hg2, H5.out⟩
        case measure => simp [intOf]; omega
      | true =>
        rw [hb] at hv
        simp only [bv] at hv
        have hm0 : m ≠ 0 := by intro h; rw [h] at hb; simp at hb
        obtain ⟨P, hP⟩ : ∃ P, at_ + k = P := ⟨_, rfl⟩
        have sP : IntKind.i64.wrap ((at_ : Int) + (k : Int)) = (P : Int) := by rw [← hP]; exact (IntWalk.i64_in _ (by omega)).trans (by omega)
        by_cases hp : P < 8 * n
        · obtain ⟨cx, fx⟩ := hR (P / 8) (by omega)
          have hset := hH.set hb (by omega)
          rw [hP] at hset
          have bx := hH.1 (P / 8) (by omega)
          obtain ⟨x, hx⟩ : ∃ x : Nat, f (P / 8) = x := ⟨_, (Int.toNat_of_nonneg bx.1).symm⟩
          rw [hx] at cx bx hset
          rw [Int.toNat_natCast] at hset
          have p8 : 2 ^ (P % 8) < 256 := Nat.pow_lt_pow_right (n := 8) (a := 2) (by decide) (by omega)
          have xx1 := xor8 x (2 ^ (P % 8)) (by omega) p8
          have ep : (2 : Int) ^ (P % 8) % 256 = ((2 ^ (P % 8) : Nat) : Int) := by
            rw [show (2 : Int) ^ (P % 8) = ((2 ^ (P % 8) : Nat) : Int) by simp]
            clear xx1
            generalize 2 ^ (P % 8) = t at p8 ⊢
            omega
          rw [← ep] at xx1
          have XV := Lib.hid xx1
          clear xx1 ep
          have hpz : (P : Int) < 8 * (n : Int) := by omega
          have hpi : (P : Int) / 8 < (n : Int) := by omega
          have H0 := Lib.hid hy0
          have H1 := Lib.hid hy1
          have H2 := Lib.hid hset
          have H3 := Lib.hid hbs
          have H4 := Lib.hid hR
          have H5 := Lib.hid hB
          have HB := Lib.hid hb
          have HP := Lib.hid hP
          clear hy0 hy1 hH hset hbs hR hB hb hP hx
          go_wp2
          go_region
          go_wp2
          go_roundw
          case rel => exact ⟨k + 1, y + 1, _, by omega, by go_num, by go_num, by omega, (fun h => by omega), (fun _ => hm0), H2.out _ XV.out, (fun t ht h => by
            rcases Nat.lt_or_ge t k with h9 | h9
            · exact H3.out t h9 h
            · obtain rfl : t = k := by omega
              rw [HP.out]; exact hp), (H4.out.set (P / 8) _).drew, by simpa using hg2, (H5.out.setCell (p := ⟨g, P / 8, none⟩) hg1 _).drew⟩
          case measure => simp [intOf]; omega
        · have hpz : ¬ ((P : Int) < 8 * (n : Int)) := by omega
          have hpz2 : 8 * (n : Int) ≤ (P : Int) := by omega
          clear hy0 hy1 hH hbs hR
          have H5 := Lib.hid hB
          clear hB
          go_wp2
          exact bodyPost_ret (v := .tuple #[.slice none 0 0, .bool false]) (by simp [results, Try.results5, go_sem]) rfl (.inl ⟨_, rfl, H5.out⟩)
    · obtain rfl : k = 64 := by omega
      rw [show ((64 : Nat) : Int) = 64 from rfl]
      rcases Nat.eq_zero_or_pos y with h0 | h0
      · subst h0
        have H5 := Lib.hid hB
        clear hy0 hy1 hH hbs hR hB
        go_wp2
        exact bodyPost_ret (v := .tuple #[.slice (some ⟨g, 0, none⟩) n c2', .bool false]) (by simp [results, Try.results5, go_sem]) rfl (.inl ⟨_, rfl, H5.out⟩)
      · have hyp : decide ((0 : Int) < (y : Int)) = true := by simp; omega
        have hyp2 : (0 : Int) < (y : Int) := by omega
        have H2 := Lib.hid (hH.diff HZL.out hat8 (hy1 h0) HM.out hbs)
        have H3 := Lib.hid hH.1
        have H4 := Lib.hid hR
        have H5 := Lib.hid hB
        clear hy0 hy1 hH hbs hR hB
        go_wp2
        exact bodyPost_ret (v := .tuple #[.slice (some ⟨g, 0, none⟩) n c2', .bool true]) (by simp [results, Try.results5, go_sem]) rfl (.inr ⟨g, c2', f, rfl, hg1, hg2, hc2, H4.out, H3.out, H2.out, H5.out⟩)
end Go.Proofs.Ytfpgddkihlpafaa
