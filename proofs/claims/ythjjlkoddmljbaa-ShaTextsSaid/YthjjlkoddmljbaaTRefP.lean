/- The document's Parse of a hash. -/
import Derived.Test.YthjjlkoddmljbaaTRef
import Derived.BigQuiet
set_option linter.unusedVariables false
set_option linter.unusedSimpArgs false
namespace Go.Proofs.Ythjjlkoddmljbaa
open Go.RowKit Go.Shelf
/-- What the first k numbers give, two in a byte. -/
def hg (g : Nat → Int) (k j : Nat) : Int := if 2 * j + 1 < k then 16 * g (2 * j) + g (2 * j + 1) else if 2 * j < k then g (2 * j) else 0
theorem hg_zero (g : Nat → Int) : nums .u8 32 (fun _ => 0) = nums .u8 32 (hg g 0) := nums_congr fun j _ => by
  unfold hg; rw [if_neg (by omega), if_neg (by omega)]
theorem hg_set (g : Nat → Int) (k : Nat) : (fun j => if j = k / 2 then (if k % 2 = 0 then g k else 16 * g (k - 1) + g k) else hg g k j) = hg g (k + 1) := by
  funext j
  unfold hg
  by_cases h : j = k / 2
  · subst h
    rw [if_pos rfl]
    by_cases h2 : k % 2 = 0
    · rw [if_pos h2, if_neg (by omega), if_pos (by omega), show 2 * (k / 2) = k by omega]
    · rw [if_neg h2, if_pos (by omega), show 2 * (k / 2) + 1 = k by omega, show 2 * (k / 2) = k - 1 by omega]
  · rw [if_neg h]
    have e1 : (2 * j + 1 < k) = (2 * j + 1 < k + 1) := propext (by omega)
    have e2 : (2 * j < k) = (2 * j < k + 1) := propext (by omega)
    simp only [e1, e2]
theorem hg_at (g : Nat → Int) (k : Nat) : hg g k (k / 2) = if k % 2 = 0 then 0 else g (k - 1) := by
  unfold hg
  by_cases h2 : k % 2 = 0
  · rw [if_neg (by omega), if_neg (by omega), if_pos h2]
  · rw [if_neg (by omega), if_pos (by omega), if_neg h2, show 2 * (k / 2) = k - 1 by omega]
theorem hg_bd {g : Nat → Int} (hg0 : ∀ i, 0 ≤ g i ∧ g i < 16) (k j : Nat) : 0 ≤ hg g k j ∧ hg g k j < 256 := by
  have := hg0 (2 * j); have := hg0 (2 * j + 1)
  unfold hg; split
  · omega
  · split <;> omega
def hgL (g : Nat → Int) : List Int := (List.range 32).map (hg g 64)
theorem hgL_all (g : Nat → Int) : nums .u8 32 (hg g 64) = nums .u8 32 (bf (hgL g)) := nums_congr fun j hj => by
  unfold hgL bf; simp [List.getD, hj]
theorem hgL_bytes {g : Nat → Int} (hg0 : ∀ i, 0 ≤ g i ∧ g i < 16) : Bytes (hgL g) := fun x hx => by
  simp only [hgL, List.mem_map] at hx
  obtain ⟨j, _, rfl⟩ := hx
  exact hg_bd hg0 64 j
theorem hgL_length (g : Nat → Int) : (hgL g).length = 32 := by simp [hgL]
/-- The document's number of a digit: 0 where it is none. -/
def vh (xs : List Int) (i : Nat) : Int := if 0 ≤ half xs i then half xs i else 0
theorem vh_bd {xs : List Int} (h : Bytes xs) (i : Nat) : 0 ≤ vh xs i ∧ vh xs i < 16 := by
  have := half_bd h i
  unfold vh; split <;> omega
theorem hgL_hash {xs : List Int} (hx : HexText xs) : hgL (vh xs) = hashOf xs := by
  unfold hgL hashOf
  refine List.map_congr_left fun j hj => ?_
  have hj : j < 32 := by simpa using hj
  have e1 : vh xs (2 * j) = half xs (2 * j) := if_pos (hx.2 _ (by omega))
  have e2 : vh xs (2 * j + 1) = half xs (2 * j + 1) := if_pos (hx.2 _ (by omega))
  unfold hg hw
  rw [if_pos (by omega), if_pos (by omega), e1, e2]
/-- Behind k digits tried. -/
def vk (c : Int) (k : Nat) : Int := if 0 ≤ dix c ∧ dix c < k then dix c else 0
theorem vk_yes (c : Int) (k : Nat) (hk : k < 16) (h : dig (k : Int) = c) : vk c (k + 1) = (k : Int) := by
  have e : dix c = (k : Int) := by rw [← h]; exact dix_dig _ (by omega) (by omega)
  unfold vk; rw [e, if_pos (by omega)]
theorem vk_no (c : Int) (h0 : 0 ≤ c) (h1 : c < 256) (k : Nat) (h : dig (k : Int) ≠ c) : vk c (k + 1) = vk c k := by
  have hne : dix c ≠ (k : Int) := fun e => h (by rw [← e]; exact dig_dix c h0 h1 (by omega))
  unfold vk
  by_cases h2 : 0 ≤ dix c ∧ dix c < k
  · rw [if_pos h2, if_pos (by omega)]
  · rw [if_neg h2, if_neg (by omega)]
theorem vk_all {xs : List Int} (hb : Bytes xs) (i : Nat) : vk (xs.getD i 0) 16 = vh xs i := by
  have := half_bd hb i
  unfold vk vh half at *
  by_cases h : 0 ≤ dix (xs.getD i 0)
  · rw [if_pos h, if_pos (by omega)]
  · rw [if_neg h, if_neg (by omega)]
theorem vk_bd (c : Int) (h0 : 0 ≤ c) (h1 : c < 256) (k : Nat) : 0 ≤ vk c k ∧ vk c k < 16 := by
  have := dix_bd c h0 h1
  unfold vk; split <;> omega
theorem eq_bytes {a b : ByteArray} (h : a = b) : (a.toList == b.toList) = true := by subst h; simp
theorem ne_bytes {a b : ByteArray} (h : a ≠ b) : (a.toList == b.toList) = false := by
  have : a.toList ≠ b.toList := fun e => h (by
    rw [ByteArray.toList_eq, ByteArray.toList_eq] at e
    exact ByteArray.ext (Array.ext' e))
  simpa using this
set_option maxRecDepth 100000 in
theorem rparse_len (s : ByteArray) (hs : s.size ≠ 64) (w : World) :
    Calls Try.prog 5 #[.string s] w fun e w' => e = .returned NoHash ∧ Below w.heap.size w w' := by
  have hz := (zero_of_info zero_hash).1
  have b2 := At.new 23 (w.alloc (.cells (nums .u8 32 fun _ => 0) 23)) (nums .u8 32 fun _ => 0)
  rw [World.size_alloc] at b2
  have H1 := Lib.hid ((At.new 23 w (nums .u8 32 fun _ => 0)).alloc (.cells (nums .u8 32 fun _ => 0) 23))
  have H2 := Lib.hid b2
  have HB := Lib.hid (show Below w.heap.size w ((w.alloc (.cells (nums .u8 32 fun _ => 0) 23)).alloc (.cells (nums .u8 32 fun _ => 0) 23)) from ((Below.refl _ w).alloc (Nat.le_refl _) _).alloc (by simp) _)
  clear b2
  have hd : (((s.size : Nat) : Int) == 64) = false := by simp; omega
  go_enter Try.func5, Try.ntmps5
  go_wp2_with (first | (refine load_hash H2.out rfl rfl rfl ?_) | (refine store_hash H1.out rfl rfl rfl rfl ?_))
  exact bodyPost_ret (v := NoHash) (results_hash2 rfl _ _ w.heap.size _ _ rfl rfl H1.out.row) rfl ⟨rfl, below_row HB.out (Nat.le_refl _) _⟩
set_option maxRecDepth 100000 in
set_option maxHeartbeats 2000000 in
theorem rparse_64 (s : ByteArray) (hs : s.size = 64) (w : World) :
    Calls Try.prog 5 #[.string s] w fun e w' => ((HexText (strB s) ∧ e = .returned (.tuple #[.agg (nums .u8 32 (bf (hashOf (strB s)))), .int .i64 0])) ∨ (¬ HexText (strB s) ∧ e = .returned NoHash)) ∧ Below w.heap.size w w' := by
  have hz := (zero_of_info zero_hash).1
  have H1 := Lib.hid ((At.new 23 w (nums .u8 32 fun _ => 0)).alloc (.cells (nums .u8 32 fun _ => 0) 23))
  have hsb := strB_bytes s
  have HSB := Lib.hid hsb
  clear hsb
  go_enter Try.func5, Try.ntmps5
  go_wp2
  go_loopw [5] (fun i wr => ∃ k : Nat, k ≤ 64 ∧ i = .int .i64 k ∧ At 23 wr w.heap.size (nums .u8 32 fun _ => 0) ∧ At 23 wr (w.heap.size + 1) (nums .u8 32 (hg (vh (strB s)) k)) ∧ Below w.heap.size w wr) (fun i _ => 64 - (intOf i).toNat)
  case atStart =>
    have b3 := At.new 23 (w.alloc (.cells (nums .u8 32 fun _ => 0) 23)) (nums .u8 32 fun _ => 0)
    simp only [World.size_alloc] at b3
    exact ⟨0, by omega, rfl, H1.out, by rw [← hg_zero]; exact b3, ((Below.refl _ w).alloc (Nat.le_refl _) _).alloc (by simp) _⟩
  case round =>
    obtain ⟨k, hk, rfl, h2, h3, hB⟩ := hrel
    have H2 := Lib.hid h2
    have H3 := Lib.hid h3
    have HB := Lib.hid hB
    clear h2 h3 hB
    by_cases hlt : k < 64
    · have hlt' : k < s.size := by omega
      have hx := strB_at s k hlt'
      have hcb := HSB.out.get k
      have hva := vk_all HSB.out k
      rw [hx] at hcb hva
      have HVA := Lib.hid hva
      obtain ⟨c0, c1⟩ := hcb
      clear hx hva
      go_wp2
      obtain ⟨wo, hwo⟩ : ∃ wo : World, wo = wr := ⟨_, rfl⟩
      rw [← hwo] at H2 H3 HB
      rw [← hwo]
      clear hwo
      go_loopw [6, 7] (fun v n wx => ∃ j : Nat, j ≤ 16 ∧ n = .int .u8 j ∧ v = .int .u8 (vk (s[k].toNat : Int) j) ∧ At 23 wx w.heap.size (nums .u8 32 fun _ => 0) ∧ At 23 wx (w.heap.size + 1) (nums .u8 32 (hg (vh (strB s)) k)) ∧ Below w.heap.size w wx) (fun _ n _ => 16 - (intOf n).toNat)
      case atStart => exact ⟨0, by omega, rfl, by unfold vk; rw [if_neg (by omega)], H2.out, H3.out, HB.out⟩
      case round =>
        clear H2 H3 HB
        obtain ⟨j, hj, rfl, rfl, i2, i3, iB⟩ := hrel
        have H2 := Lib.hid i2
        have H3 := Lib.hid i3
        have HB := Lib.hid iB
        clear i2 i3 iB
        by_cases hj2 : j < 16
        · have hnb := nibble_any (j : Int) (by omega) (by omega)
          have hvy := vk_yes (s[k].toNat : Int) j hj2
          have hvn := vk_no (s[k].toNat : Int) c0 c1 j
          have HVY := Lib.hid hvy
          have HVN := Lib.hid hvn
          clear hvy hvn
          by_cases hd : dig (j : Int) = (s[k].toNat : Int)
          · have hdb : (dig (j : Int) == (s[k].toNat : Int)) = true := by simpa using hd
            go_wp2_with fail
            go_quiet ((go_at_call 9; exact Calls.quiet_of_same ((hnb _).mono fun _ _ h => ⟨h.1, h.2.symm⟩)))
            go_wp2
            go_roundw
            case rel => exact ⟨j + 1, by omega, by go_num, by rw [HVY.out hd], At.drewN H2.out _, At.drewN H3.out _, below_drewN HB.out _⟩
            case measure => simp [intOf]; omega
          · have hdb : (dig (j : Int) == (s[k].toNat : Int)) = false := by simpa using hd
            go_wp2_with fail
            go_quiet ((go_at_call 9; exact Calls.quiet_of_same ((hnb _).mono fun _ _ h => ⟨h.1, h.2.symm⟩)))
            go_wp2
            go_roundw
            case rel => exact ⟨j + 1, by omega, by go_num, by rw [HVN.out hd], At.drewN H2.out _, At.drewN H3.out _, below_drewN HB.out _⟩
            case measure => simp [intOf]; omega
        · obtain rfl : j = 16 := by omega
          rw [HVA.out]
          have hvb := vh_bd HSB.out k
          have c3 := H3.out.num (k / 2) (by omega)
          have f3 := H3.out.free (k / 2)
          have q1 : k / 2 < 32 := by omega
          have HS := Lib.hid (hg_set (vh (strB s)) k)
          have hat := hg_at (vh (strB s)) k
          have hxx : 0 ≤ hg (vh (strB s)) k (k / 2) ∧ hg (vh (strB s)) k (k / 2) < 16 := by
            rw [hat]; split
            · omega
            · exact vh_bd HSB.out (k - 1)
          have hnew : hg (vh (strB s)) k (k / 2) * 16 + vh (strB s) k = (if k % 2 = 0 then vh (strB s) k else 16 * vh (strB s) (k - 1) + vh (strB s) k) := by
            rw [hat]; split <;> omega
          have HNW := Lib.hid hnew
          obtain ⟨x0, x1⟩ := hxx
          obtain ⟨y0, y1⟩ := hvb
          generalize hg (vh (strB s)) k (k / 2) = x at *
          obtain ⟨y, hyy⟩ : ∃ y, vh (strB s) k = y := ⟨_, rfl⟩
          rw [hyy] at y0 y1 ⊢
          have HY := Lib.hid hyy
          clear hat hnew hyy
          go_wp2
          go_roundw
          case rel =>
            have := H3.out.put (k / 2) (x * 16 + y) (by omega)
            rw [← HY.out, HNW.out, HS.out] at this
            rw [← HY.out, HNW.out]
            exact ⟨k + 1, by omega, by go_num, H2.out.other _ (by simp), this, HB.out.setCell (p := ⟨w.heap.size + 1, k / 2, none⟩) (by simp) _⟩
          case measure => simp [intOf]; omega
    · obtain rfl : k = 64 := by omega
      have h3 := H3.out
      rw [hgL_all] at h3
      have h3' := Lib.hid h3
      have hgb := hgL_bytes (fun i => vh_bd HSB.out i)
      have HGB := Lib.hid hgb
      clear h3 H3 hgb
      go_wp2_with (first | (refine load_hash h3'.out rfl rfl rfl ?_) | fail)
      refine (rtext_any _ HGB.out wr).mono ?_
      rintro e w2 ⟨rfl, hB2⟩
      have hlt2 : w.heap.size + 1 < wr.heap.size := h3'.out.lt
      have H4 := Lib.hid (At.below H2.out (by omega) hB2)
      have H5 := Lib.hid (At.below h3'.out hlt2 hB2)
      have HB2 := Lib.hid (HB.out.trans (hB2.mono HB.out.size))
      clear hB2 hlt2
      by_cases hte : strOfNums (texted (hgL (vh (strB s)))) = s
      · have hsx : strB s = texted (hgL (vh (strB s))) := by
          have := congrArg strB hte
          rw [strB_of (texted_bytes HGB.out)] at this
          exact this.symm
        have hhex : HexText (strB s) := by rw [hsx]; exact hex_texted HGB.out
        have HHX := Lib.hid hhex
        have hne := eq_bytes hte
        rw [hgL_hash hhex] at H5 hte hne ⊢
        clear hsx hhex
        go_wp2_with (first | (refine load_hash H5.out rfl rfl rfl ?_) | (refine store_hash H4.out rfl rfl rfl rfl ?_))
        exact bodyPost_ret (v := .tuple #[.agg (nums .u8 32 (bf (hashOf (strB s)))), .int .i64 0]) (results_hash2 rfl _ _ w.heap.size _ _ rfl rfl H4.out.row) rfl ⟨.inl ⟨HHX.out, rfl⟩, below_row HB2.out (Nat.le_refl _) _⟩
      · have hhex : ¬ HexText (strB s) := fun hx => hte (by rw [hgL_hash hx, texted_hash hx HSB.out, of_strB])
        have HHX := Lib.hid hhex
        have hne := ne_bytes hte
        clear hhex
        go_wp2_with (first | (refine build_hash rfl rfl ?_) | (refine store_hash H4.out rfl rfl rfl rfl ?_))
        exact bodyPost_ret (v := NoHash) (results_hash2 rfl _ _ w.heap.size _ _ rfl rfl H4.out.row) rfl ⟨.inr ⟨HHX.out, rfl⟩, below_row HB2.out (Nat.le_refl _) _⟩
theorem rparse_any (s : ByteArray) (w : World) :
    Calls Try.prog 5 #[.string s] w fun e w' => ((HexText (strB s) ∧ e = .returned (.tuple #[.agg (nums .u8 32 (bf (hashOf (strB s)))), .int .i64 0])) ∨ (¬ HexText (strB s) ∧ e = .returned NoHash)) ∧ Below w.heap.size w w' := by
  by_cases h : s.size = 64
  · exact rparse_64 s h w
  · exact (rparse_len s h w).mono fun e w' ⟨he, hb⟩ => ⟨.inr ⟨fun hx => h (by have := hx.1; rwa [strB_length] at this), he⟩, hb⟩
end Go.Proofs.Ythjjlkoddmljbaa
