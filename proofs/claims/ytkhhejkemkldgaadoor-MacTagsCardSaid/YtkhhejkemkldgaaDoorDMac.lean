/- The document's tag of bytes under a key. -/
import Derived.Test.YtkhhejkemkldgaaDoorDApp
import Derived.Test.YtkhhejkemkldgaaDoorDOf
import Derived.Test.YtkhhejkemkldgaaDoorMMath
set_option linter.unusedVariables false
set_option linter.unusedSimpArgs false
namespace Go.Proofs.YtkhhejkemkldgaaDoor
open Go.RowKit Go.Shelf
set_option maxRecDepth 100000 in
set_option maxHeartbeats 4000000 in
theorem dmac_long (A : Option Addr) (ks : List Int) (ca : Nat) (B : Option Addr) (xs : List Int) (cb : Nat) (hl : 64 < ks.length) (hk : ks.length ≤ 1000000) (hx : xs.length ≤ 1000000) (w : World)
    (ha : Bys8 w.heap.size w (.slice A ks.length ca) ks) (hb : Bys8 w.heap.size w (.slice B xs.length cb) xs) :
    Calls Tryd.prog 15 #[.slice A ks.length ca, .slice B xs.length cb] w fun e w' => e = .returned (.agg (nums .u8 32 (bf (tag ks xs)))) ∧ Below w.heap.size w w' := by
  have hz := (zero_of_info zero_hash).1
  have hky : keyB ks = sha ks := if_pos hl
  have hli : (64 : Int) < ks.length := by omega
  have hkb := keyB_bytes ha.1
  have HKY := Lib.hid hkb
  have HPG1 := Lib.hid (fun k (hk : k < 64) => pad_get 54 ks k hk)
  have HPG2 := Lib.hid (fun k (hk : k < 64) => pad_get 92 ks k hk)
  have HPB1 := Lib.hid (pad_bytes ha.1 (c := 54) (by decide))
  have HPB2 := Lib.hid (pad_bytes ha.1 (c := 92) (by decide))
  have HE := Lib.hid hky
  clear hky hkb
  obtain ⟨i0, hi, hz0, hz1, hz2⟩ := parts8
  have HI0 := Lib.hid hi
  have HZ0 := Lib.hid hz0
  have HZ1 := Lib.hid hz1
  have HZ2 := Lib.hid hz2
  clear hi hz0 hz1 hz2
  have HA := Lib.hid ha
  have HB := Lib.hid hb
  have H0 := Lib.hid (At.new 38 w (nums .u8 32 fun _ => 0))
  have B0 := Lib.hid ((Below.refl _ w).alloc (Nat.le_refl _) (.cells (nums .u8 32 fun _ => 0) 38))
  clear ha hb
  go_enter Tryd.func15, Tryd.ntmps15
  go_wp2_with (at_make; refine wpList_make_full _ rfl _ _ 33 rfl (w.heap.size + 1) 5 i0 (.int .u8 0) 1 Tryd.underlying33 HI0.out HZ0.out HZ1.out _ _ _ _ 64 rfl rfl (by omega) (by omega) (by rw [HZ2.out]; omega) (by unfold maxLen; omega) (by simp) ?_; intro w1 hO1 hG1; rw [World.size_alloc] at hO1; rw [World.size_alloc]; have hK1 := Lib.hid (at_made hO1); have HG1 := Lib.hid hG1; clear hO1 hG1)
  have B1 := Lib.hid (B0.out.grown HG1.out (by simp) (fun k e => by cases e))
  have H1 := Lib.hid ((HG1.out.block _ H0.out.lt (fun e => by cases e)).trans H0.out)
  have z1 := hK1.out.lt
  refine (dof_any A ks ca (by omega) w1 ((HA.out.below B1.out).mono B1.out.size)).mono ?_
  rintro e w2 ⟨rfl, hB2⟩
  have z2 := hB2.size
  have R2 := Lib.hid (At.new 38 w2 (nums .u8 32 fun _ => 0))
  have B3 : Below w1.heap.size w1 ((w2.alloc (.cells (nums .u8 32 fun _ => 0) 38)).setRow w2.heap.size (nums .u8 32 (bf (sha ks)))) := below_row (hB2.alloc z2 _) z2 _
  have D3 := Lib.hid (B1.out.trans (B3.mono B1.out.size))
  have R3 := Lib.hid (show At 38 ((w2.alloc (.cells (nums .u8 32 fun _ => 0) 38)).setRow w2.heap.size (nums .u8 32 (bf (sha ks)))) w2.heap.size (nums .u8 32 (bf (sha ks))) from R2.out.row)
  have H3 := Lib.hid (At.below H1.out (Nat.lt_trans (Nat.lt_succ_self _) z1) B3)
  have K3 := Lib.hid (hK1.out.below z1 B3)
  clear hB2 B3 B1 H1 hK1 HG1 B0 H0
  go_wp2_with (refine store_hash R2.out rfl rfl rfl rfl ?_)
  generalize ((w2.alloc (.cells (nums .u8 32 fun _ => 0) 38)).setRow w2.heap.size (nums .u8 32 (bf (sha ks)))) = w3 at *
  have ord := Lib.hid (show w.heap.size < w.heap.size + 1 ∧ w.heap.size + 1 < w2.heap.size from ⟨by omega, by omega⟩)
  clear R2 z1 z2
  generalize w2.heap.size = G at *
  generalize w.heap.size + 1 = KBN at *
  rw [← HE.out] at R3
  have hkl : (keyB ks).length = 32 := by rw [HE.out]; exact sha_length _
  have HKLN := Lib.hid hkl
  clear hkl
  go_loopw [7] (fun iv wr => ∃ k : Nat, k ≤ 32 ∧ iv = .int .i64 k ∧ At 5 wr KBN (nums .u8 64 (upto (keyB ks) k)) ∧ At 38 wr G (nums .u8 32 (bf (keyB ks))) ∧ At 38 wr w.heap.size (nums .u8 32 fun _ => 0) ∧ Below w.heap.size w wr) (fun iv _ => 32 - (intOf iv).toNat)
  case atStart => exact ⟨0, by omega, rfl, by rw [← upto_zero]; exact K3.out, R3.out, H3.out, D3.out⟩
  case round =>
    clear K3 R3 H3 D3
    obtain ⟨k, hk, rfl, hK, hR, hH, hBr⟩ := hrel
    by_cases hlt : k < 32
    · have hki : (k : Int) < 32 := by omega
      have c0 := hR.num k hlt
      have c1 := hK.num k (by omega)
      have f1 := hK.free k
      have HU := Lib.hid (upto_set (keyB ks) k)
      have K4 := Lib.hid hK
      have R4 := Lib.hid hR
      have H4 := Lib.hid hH
      have B4 := Lib.hid hBr
      clear hK hR hH hBr
      go_wp2_with fail
      go_roundw
      case rel =>
        have ho := ord.out
        have := K4.out.put k (bf (keyB ks) k) (by omega)
        rw [HU.out] at this
        exact ⟨k + 1, by omega, by go_num, this, R4.out.other _ (by simp; omega), H4.out.other _ (by simp; omega), B4.out.setCell (p := ⟨KBN, k, none⟩) (by simp; omega) _⟩
      case measure => simp [intOf]; omega
    · obtain rfl : k = 32 := by omega
      rw [upto_all _ 32 HKLN.out] at hK
      have HKB := Lib.hid hK
      have HKL := Lib.hid hK.lt
      have HH0 := Lib.hid hH
      clear hK hR hH
      rw [show ((32 : Nat) : Int) = 32 from rfl]
      have HR := Lib.hid hBr
      have kpl : (pad 54 ks).length = 64 := pad_length _ _
      have kpo : (pad 92 ks).length = 64 := pad_length _ _
      have HP1 := Lib.hid kpl
      have HP2 := Lib.hid kpo
      clear kpl kpo hBr
      go_wp2_with fail
      generalize keyB ks = KY at *
      obtain ⟨wq, hwq⟩ : ∃ wq : World, wq = wr := ⟨_, rfl⟩
      rw [← hwq] at HKB HH0 HR HKL
      rw [← hwq]
      clear hwq
      go_loopw [9, 10, 11] (fun v u iv wr => ∃ (k : Nat) (a1 : Option Addr) (c1 : Nat) (a2 : Option Addr) (c2 : Nat), k ≤ 64 ∧ iv = .int .i64 k ∧ v = .slice a1 k c1 ∧ u = .slice a2 k c2 ∧ Own8 wq.heap.size wr (.slice a1 k c1) ((pad 54 ks).take k) ∧ Own8 wq.heap.size wr (.slice a2 k c2) ((pad 92 ks).take k) ∧ Dis (.slice a1 k c1) (.slice a2 k c2) ∧ Below wq.heap.size wq wr) (fun _ _ iv _ => 64 - (intOf iv).toNat)
      case atStart => exact ⟨0, none, 0, none, 0, by omega, rfl, rfl, rfl, by rw [List.take_zero]; exact Own8.nil _ _, by rw [List.take_zero]; exact Own8.nil _ _, Dis.nil _, Below.refl _ _⟩
      case round =>
        obtain ⟨k, a1, c1, a2, c2, hk, rfl, rfl, rfl, hO1, hO2, hdis, hBq⟩ := hrel
        by_cases hlt : k < 64
        · have hki : (k : Int) < 64 := by omega
          have hcell := (HKB.out.below HKL.out hBq).num k hlt
          have hxb := HKY.out.get k
          have hx1 := xor_says (c := 54) hxb.1 hxb.2 (by decide)
          have hx2 := xor_says (c := 92) hxb.1 hxb.2 (by decide)
          rw [← HPG1.out k hlt] at hx1
          rw [← HPG2.out k hlt] at hx2
          have hb1b := HPB1.out.get k
          have hb2b := HPB2.out.get k
          have hsn1 := Lib.hid (takes_snoc (pad 54 ks) k (by rw [HP1.out]; exact hlt))
          have hsn2 := Lib.hid (takes_snoc (pad 92 ks) k (by rw [HP2.out]; exact hlt))
          have hln1 : ((pad 54 ks).take (k + 1)).length = k + 1 := by rw [List.length_take, HP1.out]; omega
          have hln2 : ((pad 92 ks).take (k + 1)).length = k + 1 := by rw [List.length_take, HP2.out]; omega
          have hlm1 : ((pad 54 ks).take k).length + 1 ≤ 10000000000000 := by rw [List.length_take]; omega
          have hlm2 : ((pad 92 ks).take k).length + 1 ≤ 10000000000000 := by rw [List.length_take]; omega
          have HLN1 := Lib.hid hln1
          have HLN2 := Lib.hid hln2
          change bits .xor .u8 (bf KY k) 54 = _ at hx1
          change bits .xor .u8 (bf KY k) 92 = _ at hx2
          generalize bf KY k = x at *
          generalize hp1 : (pad 54 ks).getD k 0 = P1 at *
          generalize hp2 : (pad 92 ks).getD k 0 = P2 at *
          have hal : Below wr.heap.size wr (wr.alloc (.cells #[.int .u8 P1] 5)) := (Below.refl _ wr).alloc (Nat.le_refl _) _
          have hOa := hO1.below hal (Nat.le_refl _)
          have hOb := hO2.below hal (Nat.le_refl _)
          have hs0 := hBq.size
          have hkr : KBN < wr.heap.size := Nat.lt_of_lt_of_le HKL.out hs0
          have hb1 := bys8_alloc (T := 5) wr [P1] (by intro z hz; simp at hz; subst hz; exact hb1b) #[.int .u8 P1] rfl 1 1 rfl (0, 0)
          have hs1 : wq.heap.size ≤ (wr.alloc (.cells #[.int .u8 P1] 5)).heap.size := by simp; omega
          have HAL := Lib.hid hal
          have HBq := Lib.hid hBq
          have HD := Lib.hid hdis
          have HB2B := Lib.hid hb2b
          have HPP1 := Lib.hid hp1
          have HPP2 := Lib.hid hp2
          clear hal hO1 hO2 hBq hdis hxb hb1b hb2b hp1 hp2 hln1 hln2
          go_wp2_with (first
            | (at_builtin; refine wpList_bapp8d rfl (.tmp 47) (.tmp 53) rfl wq.heap.size _ ((pad 54 ks).take k) rfl hOa _ (some ⟨wr.heap.size, 0, none⟩) 1 1 [P1] rfl hb1 hlm1 hs1 ?_; intro a3 c3 w4 hO3 hB4 hG4 hD4; rw [hsn1.out, HLN1.out] at hO3 hD4; rw [hsn1.out, HLN1.out]; have hOc := hOb.kept hG4 HD.out; have HDa := Lib.hid (HD.out.grow hOb (Nat.le_refl _) hD4); have hal2 : Below w4.heap.size w4 (w4.alloc (.cells #[.int .u8 P2] 5)) := (Below.refl _ w4).alloc (Nat.le_refl _) _; have hOd := hOc.below hal2 (Nat.le_refl _); have hOe := hO3.below hal2 (Nat.le_refl _); have hb2 := bys8_alloc (T := 5) w4 [P2] (by intro z hz; simp at hz; subst hz; exact HB2B.out) #[.int .u8 P2] rfl 1 1 rfl (0, 0); have hs4 := hB4.size; have HB4W := Lib.hid (show wq.heap.size ≤ w4.heap.size from Nat.le_trans hs1 hs4); have hs2 : wq.heap.size ≤ (w4.alloc (.cells #[.int .u8 P2] 5)).heap.size := Nat.le_trans HB4W.out hal2.size; have HAL2 := Lib.hid hal2; have HB4 := Lib.hid hB4; have HOE := Lib.hid hOe; have hcell2 : w4.cell? ⟨KBN, k, none⟩ = some (.int .u8 x) := (hB4.cell (p := ⟨KBN, k, none⟩) HKL.out).trans ((HAL.out.cell (p := ⟨KBN, k, none⟩) hkr).trans hcell); clear hal2 hB4 hG4 hD4 hO3 hOc hOe hOa hOb hb1 hs1)
            | (at_builtin; refine wpList_bapp8d rfl (.tmp 55) (.tmp 61) rfl wq.heap.size _ ((pad 92 ks).take k) rfl hOd _ (some ⟨w4.heap.size, 0, none⟩) 1 1 [P2] rfl hb2 hlm2 hs2 ?_; intro a5 c5 w5 hO5 hB5 hG5 hD5; rw [hsn2.out, HLN2.out] at hO5 hD5; rw [hsn2.out, HLN2.out])
            | fail)
          have O3 := Lib.hid (HOE.out.kept hG5 HDa.out.symm)
          have O5 := Lib.hid hO5
          have D2 := Lib.hid (((HDa.out.symm).grow HOE.out (Nat.le_refl _) hD5).symm)
          have DB := Lib.hid ((HBq.out.trans (HAL.out.mono HBq.out.size)).trans (HB4.out.trans ((HAL2.out.mono HB4W.out).trans hB5)))
          clear hO5 hB5 hG5 hD5 hOd hb2 hs2 hs4 hcell hcell2 HOE HDa HAL2 HB4 HB4W HAL HBq HD hx1 hx2
          go_wp2_with fail
          go_roundw
          case rel => exact ⟨k + 1, a3, c3, a5, c5, by omega, by go_num, rfl, rfl, O3.out, O5.out, D2.out, DB.out⟩
          case measure => simp [intOf]; omega
        · obtain rfl : k = 64 := by omega
          rw [List.take_of_length_le (by rw [HP1.out]; exact Nat.le_refl _)] at hO1
          rw [List.take_of_length_le (by rw [HP2.out]; exact Nat.le_refl _)] at hO2
          have D5 := HR.out.trans (hBq.mono HR.out.size)
          have hbx := HB.out.below D5
          have hs5 := hBq.size
          have hml : (pad 54 ks).length + xs.length ≤ 10000000000000 := by rw [HP1.out]; omega
          have hXl : (pad 54 ks ++ xs).length ≤ 100000000000 := by rw [List.length_append, HP1.out]; omega
          obtain ⟨NX, hNX⟩ : ∃ NX, (pad 54 ks ++ xs).length = NX := ⟨_, rfl⟩
          have HNX := Lib.hid hNX
          clear hNX
          have hsl : (sha (pad 54 ks ++ xs)).length = 32 := sha_length _
          have hsb : Bytes (sha (pad 54 ks ++ xs)) := sha_bytes _
          have HTG : Hid (tag ks xs = sha (pad 92 ks ++ sha (pad 54 ks ++ xs))) := Lib.hid rfl
          have HBQ := Lib.hid hBq
          have HD := Lib.hid hdis
          have HO2 := Lib.hid hO2
          have HXL := Lib.hid hXl
          have HSB := Lib.hid hsb
          have HSL := Lib.hid hsl
          clear D5 hBq hdis hO2 hXl hsl hsb
          go_wp2_with (first
            | (at_builtin; refine wpList_bapp8d rfl (.tmp 63) (.tmp 64) rfl wq.heap.size _ (pad 54 ks) rfl hO1 w.heap.size B xs.length cb xs rfl hbx hml hs5 ?_; intro a3 c3 w4 hO3 hB4 hG4 hD4; rw [HNX.out] at hO3; rw [HNX.out])
            | fail)
          have O2 := HO2.out.kept hG4 HD.out
          have DQ := HBQ.out.trans hB4
          have hU := dof_any a3 _ c3 HXL.out w4 (by rw [HNX.out]; exact hO3.bys)
          rw [HNX.out] at hU
          have HU := Lib.hid hU
          clear hU
          have HO2b := Lib.hid O2
          have HDQ := Lib.hid DQ
          clear hO1 hbx hml hs5 hO3 hB4 hG4 hD4 O2 DQ HO2 HBQ HD
          generalize hXX : pad 54 ks ++ xs = X at *
          have HXX := Lib.hid hXX
          clear hXX
          go_wp2_with fail
          refine HU.out.mono ?_
          rintro e w5 ⟨rfl, hB5⟩
          have z5 := hB5.size
          have R5 := Lib.hid (At.new 38 w5 (nums .u8 32 fun _ => 0))
          have B6 : Below w5.heap.size w5 ((w5.alloc (.cells (nums .u8 32 fun _ => 0) 38)).setRow w5.heap.size (nums .u8 32 (bf (sha X)))) := below_row ((Below.refl _ w5).alloc (Nat.le_refl _) _) (Nat.le_refl _) _
          have O6 := Lib.hid ((HO2b.out.below hB5 (Nat.le_refl _)).below B6 (Nat.le_refl _))
          have R6 := Lib.hid (show At 38 ((w5.alloc (.cells (nums .u8 32 fun _ => 0) 38)).setRow w5.heap.size (nums .u8 32 (bf (sha X)))) w5.heap.size (nums .u8 32 (bf (sha X))) from R5.out.row)
          have zq := HDQ.out.size
          have D6 := Lib.hid ((HDQ.out.trans (hB5.mono zq)).trans (B6.mono (Nat.le_trans zq z5)))
          have hne := Lib.hid (fun k (hk : (Value.slice a2 64 c2).ownBlock = some k) => Nat.ne_of_lt (Nat.lt_of_lt_of_le (HO2b.out.2.lt k hk).2 z5))
          clear hB5 B6 HU HO2b HDQ z5 zq
          go_wp2_with (refine store_hash R5.out rfl rfl rfl rfl ?_)
          generalize ((w5.alloc (.cells (nums .u8 32 fun _ => 0) 38)).setRow w5.heap.size (nums .u8 32 (bf (sha X)))) = w6 at *
          clear R5
          generalize w5.heap.size = HBK at *
          generalize sha X = hs at *
          go_loopw [10, 13] (fun u iv wr => ∃ (k : Nat) (a : Option Addr) (c : Nat), k ≤ 32 ∧ iv = .int .i64 k ∧ u = .slice a (64 + k) c ∧ Own8 wq.heap.size wr (.slice a (64 + k) c) (pad 92 ks ++ hs.take k) ∧ At 38 wr HBK (nums .u8 32 (bf hs)) ∧ (∀ j, (Value.slice a (64 + k) c).ownBlock = some j → j ≠ HBK) ∧ Below wq.heap.size wq wr) (fun _ iv _ => 32 - (intOf iv).toNat)
          case atStart => exact ⟨0, a2, c2, by omega, rfl, rfl, by rw [List.take_zero, List.append_nil]; exact O6.out, R6.out, hne.out, D6.out⟩
          case round =>
            clear O6 R6 hne D6
            obtain ⟨k, a, c, hk, rfl, rfl, hO, hR, hn, hBq⟩ := hrel
            by_cases hlt : k < 32
            · have hki : (k : Int) < 32 := by omega
              have hcell := hR.num k hlt
              have hxb := HSB.out.get k
              have hal : Below wr.heap.size wr (wr.alloc (.cells #[.int .u8 (bf hs k)] 5)) := (Below.refl _ wr).alloc (Nat.le_refl _) _
              have hOa := hO.below hal (Nat.le_refl _)
              have hRa := Lib.hid (hR.below hR.lt hal)
              have hRl := Lib.hid hR.lt
              have hb1 := bys8_alloc (T := 5) wr [bf hs k] (by intro x hx; simp at hx; subst hx; exact hxb) #[.int .u8 (bf hs k)] rfl 1 1 rfl (0, 0)
              have hs1 : wq.heap.size ≤ (wr.alloc (.cells #[.int .u8 (bf hs k)] 5)).heap.size := Nat.le_trans hBq.size hal.size
              have hml : (pad 92 ks ++ hs.take k).length + 1 ≤ 10000000000000 := by rw [List.length_append, HP2.out, List.length_take]; omega
              have hsn : (pad 92 ks ++ hs.take k) ++ [bf hs k] = pad 92 ks ++ hs.take (k + 1) := by rw [List.append_assoc]; congr 1; exact takes_snoc hs k (by rw [HSL.out]; exact hlt)
              have hln : (pad 92 ks ++ hs.take (k + 1)).length = 64 + (k + 1) := by rw [List.length_append, HP2.out, List.length_take, HSL.out]; omega
              have HSN := Lib.hid hsn
              have HLN := Lib.hid hln
              have HAL := Lib.hid hal
              have HBq := Lib.hid hBq
              have HN := Lib.hid hn
              clear hal hO hR hBq hxb hsn hln hn
              go_wp2_with (first
                | (at_builtin; refine wpList_bapp8d rfl (.tmp 72) (.tmp 76) rfl wq.heap.size _ (pad 92 ks ++ hs.take k) rfl hOa _ (some ⟨wr.heap.size, 0, none⟩) 1 1 [bf hs k] rfl hb1 hml hs1 ?_; intro a3 c3 w7 hO3 hB7 hG7 hD7; rw [HSN.out, HLN.out] at hO3 hD7; rw [HSN.out, HLN.out])
                | fail)
              have O3 := Lib.hid hO3
              have R3 := Lib.hid ((hG7.block HBK hRa.out.lt (fun e => HN.out _ e.symm rfl)).trans hRa.out)
              have N3 : Hid (∀ j, (Value.slice a3 (64 + (k + 1)) c3).ownBlock = some j → j ≠ HBK) := Lib.hid fun j hj e => by
                subst e
                rcases hD7 with h | h
                · exact HN.out _ (h.symm.trans hj) rfl
                · rw [hj] at h
                  injection h with h
                  have := hRl.out
                  simp at h
                  omega
              have D3 := Lib.hid (HBq.out.trans ((HAL.out.mono HBq.out.size).trans hB7))
              clear hO3 hB7 hG7 hD7 hOa hb1 hs1 hml hcell
              go_wp2_with fail
              go_roundw
              case rel => exact ⟨k + 1, a3, c3, by omega, by go_num, rfl, O3.out, R3.out, N3.out, D3.out⟩
              case measure => simp [intOf]; omega
            · obtain rfl : k = 32 := by omega
              rw [List.take_of_length_le (by rw [HSL.out]; exact Nat.le_refl _)] at hO
              rw [show 64 + 32 = 96 from rfl] at hO ⊢
              have hol : (pad 92 ks ++ hs).length = 96 := by rw [List.length_append, HP2.out, HSL.out]
              have hU := dof_any a (pad 92 ks ++ hs) c (by rw [hol]; omega) wr (by rw [hol]; exact hO.bys)
              rw [hol] at hU
              have HU := Lib.hid hU
              have D8 := Lib.hid (HR.out.trans (hBq.mono HR.out.size))
              have H8 := Lib.hid (HH0.out.below HH0.out.lt hBq)
              clear hU hO hR hn hBq hol
              go_wp2_with fail
              refine HU.out.mono ?_
              rintro e w8 ⟨rfl, hB8⟩
              have H9 := Lib.hid (H8.out.below H8.out.lt hB8)
              have D9 := Lib.hid (D8.out.trans (hB8.mono D8.out.size))
              clear hB8 HU
              go_wp2_with (refine store_hash H9.out rfl rfl rfl rfl ?_)
              exact bodyPost_ret (v := .agg (nums .u8 32 (bf (sha (pad 92 ks ++ hs))))) (results_hash rfl _ _ w.heap.size _ rfl H9.out.row) rfl ⟨by rw [HTG.out], below_row D9.out (Nat.le_refl _) _⟩

set_option maxRecDepth 100000 in
set_option maxHeartbeats 4000000 in
theorem dmac_short (A : Option Addr) (ks : List Int) (ca : Nat) (B : Option Addr) (xs : List Int) (cb : Nat) (hl : ks.length ≤ 64) (hx : xs.length ≤ 1000000) (w : World)
    (ha : Bys8 w.heap.size w (.slice A ks.length ca) ks) (hb : Bys8 w.heap.size w (.slice B xs.length cb) xs) :
    Calls Tryd.prog 15 #[.slice A ks.length ca, .slice B xs.length cb] w fun e w' => e = .returned (.agg (nums .u8 32 (bf (tag ks xs)))) ∧ Below w.heap.size w w' := by
  have hz := (zero_of_info zero_hash).1
  have hky : keyB ks = ks := if_neg (by omega)
  have hli : ¬ ((64 : Int) < ks.length) := by omega
  have hkb := keyB_bytes ha.1
  have HKY := Lib.hid hkb
  have HPG1 := Lib.hid (fun k (hk : k < 64) => pad_get 54 ks k hk)
  have HPG2 := Lib.hid (fun k (hk : k < 64) => pad_get 92 ks k hk)
  have HPB1 := Lib.hid (pad_bytes ha.1 (c := 54) (by decide))
  have HPB2 := Lib.hid (pad_bytes ha.1 (c := 92) (by decide))
  have HE := Lib.hid hky
  clear hky hkb
  obtain ⟨i0, hi, hz0, hz1, hz2⟩ := parts8
  have HI0 := Lib.hid hi
  have HZ0 := Lib.hid hz0
  have HZ1 := Lib.hid hz1
  have HZ2 := Lib.hid hz2
  clear hi hz0 hz1 hz2
  have HA := Lib.hid ha
  have HB := Lib.hid hb
  have H0 := Lib.hid (At.new 38 w (nums .u8 32 fun _ => 0))
  have B0 := Lib.hid ((Below.refl _ w).alloc (Nat.le_refl _) (.cells (nums .u8 32 fun _ => 0) 38))
  clear ha hb
  go_enter Tryd.func15, Tryd.ntmps15
  go_wp2_with (at_make; refine wpList_make_full _ rfl _ _ 33 rfl (w.heap.size + 1) 5 i0 (.int .u8 0) 1 Tryd.underlying33 HI0.out HZ0.out HZ1.out _ _ _ _ 64 rfl rfl (by omega) (by omega) (by rw [HZ2.out]; omega) (by unfold maxLen; omega) (by simp) ?_; intro w1 hO1 hG1; rw [World.size_alloc] at hO1; rw [World.size_alloc]; have hK1 := Lib.hid (at_made hO1); have HG1 := Lib.hid hG1; clear hO1 hG1)
  have B1 := Lib.hid (B0.out.grown HG1.out (by simp) (fun k e => by cases e))
  have H1 := Lib.hid ((HG1.out.block _ H0.out.lt (fun e => by cases e)).trans H0.out)
  have z1 := Lib.hid hK1.out.lt
  clear HG1 B0 H0
  go_wp2_with fail
  have ord := Lib.hid (show w.heap.size < w.heap.size + 1 from by omega)
  generalize w.heap.size + 1 = KBN at *
  have hkl : (keyB ks).length = ks.length := by rw [HE.out]
  have HKLN := Lib.hid hkl
  clear hkl
  go_loopw [8] (fun iv wr => ∃ k : Nat, k ≤ ks.length ∧ iv = .int .i64 k ∧ At 5 wr KBN (nums .u8 64 (upto (keyB ks) k)) ∧ At 38 wr w.heap.size (nums .u8 32 fun _ => 0) ∧ Below w.heap.size w wr) (fun iv _ => ks.length - (intOf iv).toNat)
  case atStart => exact ⟨0, by omega, rfl, by rw [← upto_zero]; exact hK1.out, H1.out, B1.out⟩
  case round =>
    clear hK1 H1 B1
    obtain ⟨k, hk, rfl, hK, hH, hBr⟩ := hrel
    by_cases hlt : k < ks.length
    · have hki : (k : Int) < ks.length := by omega
      have hk64 : (k : Int) < 64 := by omega
      have hab := (HA.out.below hBr)
      obtain ⟨_, ⟨e, _⟩ | ⟨b, off, cap, e, hbl, hcs⟩⟩ := hab
      · rw [e] at hlt; simp at hlt
      obtain rfl : A = some ⟨b, off, none⟩ := by injection e
      have c0 : wr.cell? ⟨b, off + k, none⟩ = some (.int .u8 (bf (keyB ks) k)) := by rw [HE.out]; exact hcs k hlt
      have c1 := hK.num k (by omega)
      have f1 := hK.free k
      have HU := Lib.hid (upto_set (keyB ks) k)
      have K4 := Lib.hid hK
      have H4 := Lib.hid hH
      have B4 := Lib.hid hBr
      have HKK := Lib.hid (show k < 64 from by omega)
      clear hK hH hBr hcs e
      go_wp2_with fail
      go_roundw
      case rel =>
        have ho := ord.out
        have := K4.out.put k (bf (keyB ks) k) HKK.out
        rw [HU.out] at this
        exact ⟨k + 1, by omega, by go_num, this, H4.out.other _ (by simp; omega), B4.out.setCell (p := ⟨KBN, k, none⟩) (by simp; omega) _⟩
      case measure => simp [intOf]; omega
    · obtain rfl : k = ks.length := by omega
      rw [upto_all _ ks.length HKLN.out] at hK
      have HKB := Lib.hid hK
      have HKL := Lib.hid hK.lt
      have HH0 := Lib.hid hH
      clear hK hH
      have HR := Lib.hid hBr
      have kpl : (pad 54 ks).length = 64 := pad_length _ _
      have kpo : (pad 92 ks).length = 64 := pad_length _ _
      have HP1 := Lib.hid kpl
      have HP2 := Lib.hid kpo
      clear kpl kpo hBr
      go_wp2_with fail
      generalize keyB ks = KY at *
      obtain ⟨wq, hwq⟩ : ∃ wq : World, wq = wr := ⟨_, rfl⟩
      rw [← hwq] at HKB HH0 HR HKL
      rw [← hwq]
      clear hwq
      go_loopw [9, 10, 11] (fun v u iv wr => ∃ (k : Nat) (a1 : Option Addr) (c1 : Nat) (a2 : Option Addr) (c2 : Nat), k ≤ 64 ∧ iv = .int .i64 k ∧ v = .slice a1 k c1 ∧ u = .slice a2 k c2 ∧ Own8 wq.heap.size wr (.slice a1 k c1) ((pad 54 ks).take k) ∧ Own8 wq.heap.size wr (.slice a2 k c2) ((pad 92 ks).take k) ∧ Dis (.slice a1 k c1) (.slice a2 k c2) ∧ Below wq.heap.size wq wr) (fun _ _ iv _ => 64 - (intOf iv).toNat)
      case atStart => exact ⟨0, none, 0, none, 0, by omega, rfl, rfl, rfl, by rw [List.take_zero]; exact Own8.nil _ _, by rw [List.take_zero]; exact Own8.nil _ _, Dis.nil _, Below.refl _ _⟩
      case round =>
        obtain ⟨k, a1, c1, a2, c2, hk, rfl, rfl, rfl, hO1, hO2, hdis, hBq⟩ := hrel
        by_cases hlt : k < 64
        · have hki : (k : Int) < 64 := by omega
          have hcell := (HKB.out.below HKL.out hBq).num k hlt
          have hxb := HKY.out.get k
          have hx1 := xor_says (c := 54) hxb.1 hxb.2 (by decide)
          have hx2 := xor_says (c := 92) hxb.1 hxb.2 (by decide)
          rw [← HPG1.out k hlt] at hx1
          rw [← HPG2.out k hlt] at hx2
          have hb1b := HPB1.out.get k
          have hb2b := HPB2.out.get k
          have hsn1 := Lib.hid (takes_snoc (pad 54 ks) k (by rw [HP1.out]; exact hlt))
          have hsn2 := Lib.hid (takes_snoc (pad 92 ks) k (by rw [HP2.out]; exact hlt))
          have hln1 : ((pad 54 ks).take (k + 1)).length = k + 1 := by rw [List.length_take, HP1.out]; omega
          have hln2 : ((pad 92 ks).take (k + 1)).length = k + 1 := by rw [List.length_take, HP2.out]; omega
          have hlm1 : ((pad 54 ks).take k).length + 1 ≤ 10000000000000 := by rw [List.length_take]; omega
          have hlm2 : ((pad 92 ks).take k).length + 1 ≤ 10000000000000 := by rw [List.length_take]; omega
          have HLN1 := Lib.hid hln1
          have HLN2 := Lib.hid hln2
          change bits .xor .u8 (bf KY k) 54 = _ at hx1
          change bits .xor .u8 (bf KY k) 92 = _ at hx2
          generalize bf KY k = x at *
          generalize hp1 : (pad 54 ks).getD k 0 = P1 at *
          generalize hp2 : (pad 92 ks).getD k 0 = P2 at *
          have hal : Below wr.heap.size wr (wr.alloc (.cells #[.int .u8 P1] 5)) := (Below.refl _ wr).alloc (Nat.le_refl _) _
          have hOa := hO1.below hal (Nat.le_refl _)
          have hOb := hO2.below hal (Nat.le_refl _)
          have hs0 := hBq.size
          have hkr : KBN < wr.heap.size := Nat.lt_of_lt_of_le HKL.out hs0
          have hb1 := bys8_alloc (T := 5) wr [P1] (by intro z hz; simp at hz; subst hz; exact hb1b) #[.int .u8 P1] rfl 1 1 rfl (0, 0)
          have hs1 : wq.heap.size ≤ (wr.alloc (.cells #[.int .u8 P1] 5)).heap.size := by simp; omega
          have HAL := Lib.hid hal
          have HBq := Lib.hid hBq
          have HD := Lib.hid hdis
          have HB2B := Lib.hid hb2b
          have HPP1 := Lib.hid hp1
          have HPP2 := Lib.hid hp2
          clear hal hO1 hO2 hBq hdis hxb hb1b hb2b hp1 hp2 hln1 hln2
          go_wp2_with (first
            | (at_builtin; refine wpList_bapp8d rfl (.tmp 47) (.tmp 53) rfl wq.heap.size _ ((pad 54 ks).take k) rfl hOa _ (some ⟨wr.heap.size, 0, none⟩) 1 1 [P1] rfl hb1 hlm1 hs1 ?_; intro a3 c3 w4 hO3 hB4 hG4 hD4; rw [hsn1.out, HLN1.out] at hO3 hD4; rw [hsn1.out, HLN1.out]; have hOc := hOb.kept hG4 HD.out; have HDa := Lib.hid (HD.out.grow hOb (Nat.le_refl _) hD4); have hal2 : Below w4.heap.size w4 (w4.alloc (.cells #[.int .u8 P2] 5)) := (Below.refl _ w4).alloc (Nat.le_refl _) _; have hOd := hOc.below hal2 (Nat.le_refl _); have hOe := hO3.below hal2 (Nat.le_refl _); have hb2 := bys8_alloc (T := 5) w4 [P2] (by intro z hz; simp at hz; subst hz; exact HB2B.out) #[.int .u8 P2] rfl 1 1 rfl (0, 0); have hs4 := hB4.size; have HB4W := Lib.hid (show wq.heap.size ≤ w4.heap.size from Nat.le_trans hs1 hs4); have hs2 : wq.heap.size ≤ (w4.alloc (.cells #[.int .u8 P2] 5)).heap.size := Nat.le_trans HB4W.out hal2.size; have HAL2 := Lib.hid hal2; have HB4 := Lib.hid hB4; have HOE := Lib.hid hOe; have hcell2 : w4.cell? ⟨KBN, k, none⟩ = some (.int .u8 x) := (hB4.cell (p := ⟨KBN, k, none⟩) HKL.out).trans ((HAL.out.cell (p := ⟨KBN, k, none⟩) hkr).trans hcell); clear hal2 hB4 hG4 hD4 hO3 hOc hOe hOa hOb hb1 hs1)
            | (at_builtin; refine wpList_bapp8d rfl (.tmp 55) (.tmp 61) rfl wq.heap.size _ ((pad 92 ks).take k) rfl hOd _ (some ⟨w4.heap.size, 0, none⟩) 1 1 [P2] rfl hb2 hlm2 hs2 ?_; intro a5 c5 w5 hO5 hB5 hG5 hD5; rw [hsn2.out, HLN2.out] at hO5 hD5; rw [hsn2.out, HLN2.out])
            | fail)
          have O3 := Lib.hid (HOE.out.kept hG5 HDa.out.symm)
          have O5 := Lib.hid hO5
          have D2 := Lib.hid (((HDa.out.symm).grow HOE.out (Nat.le_refl _) hD5).symm)
          have DB := Lib.hid ((HBq.out.trans (HAL.out.mono HBq.out.size)).trans (HB4.out.trans ((HAL2.out.mono HB4W.out).trans hB5)))
          clear hO5 hB5 hG5 hD5 hOd hb2 hs2 hs4 hcell hcell2 HOE HDa HAL2 HB4 HB4W HAL HBq HD hx1 hx2
          go_wp2_with fail
          go_roundw
          case rel => exact ⟨k + 1, a3, c3, a5, c5, by omega, by go_num, rfl, rfl, O3.out, O5.out, D2.out, DB.out⟩
          case measure => simp [intOf]; omega
        · obtain rfl : k = 64 := by omega
          rw [List.take_of_length_le (by rw [HP1.out]; exact Nat.le_refl _)] at hO1
          rw [List.take_of_length_le (by rw [HP2.out]; exact Nat.le_refl _)] at hO2
          have D5 := HR.out.trans (hBq.mono HR.out.size)
          have hbx := HB.out.below D5
          have hs5 := hBq.size
          have hml : (pad 54 ks).length + xs.length ≤ 10000000000000 := by rw [HP1.out]; omega
          have hXl : (pad 54 ks ++ xs).length ≤ 100000000000 := by rw [List.length_append, HP1.out]; omega
          obtain ⟨NX, hNX⟩ : ∃ NX, (pad 54 ks ++ xs).length = NX := ⟨_, rfl⟩
          have HNX := Lib.hid hNX
          clear hNX
          have hsl : (sha (pad 54 ks ++ xs)).length = 32 := sha_length _
          have hsb : Bytes (sha (pad 54 ks ++ xs)) := sha_bytes _
          have HTG : Hid (tag ks xs = sha (pad 92 ks ++ sha (pad 54 ks ++ xs))) := Lib.hid rfl
          have HBQ := Lib.hid hBq
          have HD := Lib.hid hdis
          have HO2 := Lib.hid hO2
          have HXL := Lib.hid hXl
          have HSB := Lib.hid hsb
          have HSL := Lib.hid hsl
          clear D5 hBq hdis hO2 hXl hsl hsb
          go_wp2_with (first
            | (at_builtin; refine wpList_bapp8d rfl (.tmp 63) (.tmp 64) rfl wq.heap.size _ (pad 54 ks) rfl hO1 w.heap.size B xs.length cb xs rfl hbx hml hs5 ?_; intro a3 c3 w4 hO3 hB4 hG4 hD4; rw [HNX.out] at hO3; rw [HNX.out])
            | fail)
          have O2 := HO2.out.kept hG4 HD.out
          have DQ := HBQ.out.trans hB4
          have hU := dof_any a3 _ c3 HXL.out w4 (by rw [HNX.out]; exact hO3.bys)
          rw [HNX.out] at hU
          have HU := Lib.hid hU
          clear hU
          have HO2b := Lib.hid O2
          have HDQ := Lib.hid DQ
          clear hO1 hbx hml hs5 hO3 hB4 hG4 hD4 O2 DQ HO2 HBQ HD
          generalize hXX : pad 54 ks ++ xs = X at *
          have HXX := Lib.hid hXX
          clear hXX
          go_wp2_with fail
          refine HU.out.mono ?_
          rintro e w5 ⟨rfl, hB5⟩
          have z5 := hB5.size
          have R5 := Lib.hid (At.new 38 w5 (nums .u8 32 fun _ => 0))
          have B6 : Below w5.heap.size w5 ((w5.alloc (.cells (nums .u8 32 fun _ => 0) 38)).setRow w5.heap.size (nums .u8 32 (bf (sha X)))) := below_row ((Below.refl _ w5).alloc (Nat.le_refl _) _) (Nat.le_refl _) _
          have O6 := Lib.hid ((HO2b.out.below hB5 (Nat.le_refl _)).below B6 (Nat.le_refl _))
          have R6 := Lib.hid (show At 38 ((w5.alloc (.cells (nums .u8 32 fun _ => 0) 38)).setRow w5.heap.size (nums .u8 32 (bf (sha X)))) w5.heap.size (nums .u8 32 (bf (sha X))) from R5.out.row)
          have zq := HDQ.out.size
          have D6 := Lib.hid ((HDQ.out.trans (hB5.mono zq)).trans (B6.mono (Nat.le_trans zq z5)))
          have hne := Lib.hid (fun k (hk : (Value.slice a2 64 c2).ownBlock = some k) => Nat.ne_of_lt (Nat.lt_of_lt_of_le (HO2b.out.2.lt k hk).2 z5))
          clear hB5 B6 HU HO2b HDQ z5 zq
          go_wp2_with (refine store_hash R5.out rfl rfl rfl rfl ?_)
          generalize ((w5.alloc (.cells (nums .u8 32 fun _ => 0) 38)).setRow w5.heap.size (nums .u8 32 (bf (sha X)))) = w6 at *
          clear R5
          generalize w5.heap.size = HBK at *
          generalize sha X = hs at *
          go_loopw [10, 13] (fun u iv wr => ∃ (k : Nat) (a : Option Addr) (c : Nat), k ≤ 32 ∧ iv = .int .i64 k ∧ u = .slice a (64 + k) c ∧ Own8 wq.heap.size wr (.slice a (64 + k) c) (pad 92 ks ++ hs.take k) ∧ At 38 wr HBK (nums .u8 32 (bf hs)) ∧ (∀ j, (Value.slice a (64 + k) c).ownBlock = some j → j ≠ HBK) ∧ Below wq.heap.size wq wr) (fun _ iv _ => 32 - (intOf iv).toNat)
          case atStart => exact ⟨0, a2, c2, by omega, rfl, rfl, by rw [List.take_zero, List.append_nil]; exact O6.out, R6.out, hne.out, D6.out⟩
          case round =>
            clear O6 R6 hne D6
            obtain ⟨k, a, c, hk, rfl, rfl, hO, hR, hn, hBq⟩ := hrel
            by_cases hlt : k < 32
            · have hki : (k : Int) < 32 := by omega
              have hcell := hR.num k hlt
              have hxb := HSB.out.get k
              have hal : Below wr.heap.size wr (wr.alloc (.cells #[.int .u8 (bf hs k)] 5)) := (Below.refl _ wr).alloc (Nat.le_refl _) _
              have hOa := hO.below hal (Nat.le_refl _)
              have hRa := Lib.hid (hR.below hR.lt hal)
              have hRl := Lib.hid hR.lt
              have hb1 := bys8_alloc (T := 5) wr [bf hs k] (by intro x hx; simp at hx; subst hx; exact hxb) #[.int .u8 (bf hs k)] rfl 1 1 rfl (0, 0)
              have hs1 : wq.heap.size ≤ (wr.alloc (.cells #[.int .u8 (bf hs k)] 5)).heap.size := Nat.le_trans hBq.size hal.size
              have hml : (pad 92 ks ++ hs.take k).length + 1 ≤ 10000000000000 := by rw [List.length_append, HP2.out, List.length_take]; omega
              have hsn : (pad 92 ks ++ hs.take k) ++ [bf hs k] = pad 92 ks ++ hs.take (k + 1) := by rw [List.append_assoc]; congr 1; exact takes_snoc hs k (by rw [HSL.out]; exact hlt)
              have hln : (pad 92 ks ++ hs.take (k + 1)).length = 64 + (k + 1) := by rw [List.length_append, HP2.out, List.length_take, HSL.out]; omega
              have HSN := Lib.hid hsn
              have HLN := Lib.hid hln
              have HAL := Lib.hid hal
              have HBq := Lib.hid hBq
              have HN := Lib.hid hn
              clear hal hO hR hBq hxb hsn hln hn
              go_wp2_with (first
                | (at_builtin; refine wpList_bapp8d rfl (.tmp 72) (.tmp 76) rfl wq.heap.size _ (pad 92 ks ++ hs.take k) rfl hOa _ (some ⟨wr.heap.size, 0, none⟩) 1 1 [bf hs k] rfl hb1 hml hs1 ?_; intro a3 c3 w7 hO3 hB7 hG7 hD7; rw [HSN.out, HLN.out] at hO3 hD7; rw [HSN.out, HLN.out])
                | fail)
              have O3 := Lib.hid hO3
              have R3 := Lib.hid ((hG7.block HBK hRa.out.lt (fun e => HN.out _ e.symm rfl)).trans hRa.out)
              have N3 : Hid (∀ j, (Value.slice a3 (64 + (k + 1)) c3).ownBlock = some j → j ≠ HBK) := Lib.hid fun j hj e => by
                subst e
                rcases hD7 with h | h
                · exact HN.out _ (h.symm.trans hj) rfl
                · rw [hj] at h
                  injection h with h
                  have := hRl.out
                  simp at h
                  omega
              have D3 := Lib.hid (HBq.out.trans ((HAL.out.mono HBq.out.size).trans hB7))
              clear hO3 hB7 hG7 hD7 hOa hb1 hs1 hml hcell
              go_wp2_with fail
              go_roundw
              case rel => exact ⟨k + 1, a3, c3, by omega, by go_num, rfl, O3.out, R3.out, N3.out, D3.out⟩
              case measure => simp [intOf]; omega
            · obtain rfl : k = 32 := by omega
              rw [List.take_of_length_le (by rw [HSL.out]; exact Nat.le_refl _)] at hO
              rw [show 64 + 32 = 96 from rfl] at hO ⊢
              have hol : (pad 92 ks ++ hs).length = 96 := by rw [List.length_append, HP2.out, HSL.out]
              have hU := dof_any a (pad 92 ks ++ hs) c (by rw [hol]; omega) wr (by rw [hol]; exact hO.bys)
              rw [hol] at hU
              have HU := Lib.hid hU
              have D8 := Lib.hid (HR.out.trans (hBq.mono HR.out.size))
              have H8 := Lib.hid (HH0.out.below HH0.out.lt hBq)
              clear hU hO hR hn hBq hol
              go_wp2_with fail
              refine HU.out.mono ?_
              rintro e w8 ⟨rfl, hB8⟩
              have H9 := Lib.hid (H8.out.below H8.out.lt hB8)
              have D9 := Lib.hid (D8.out.trans (hB8.mono D8.out.size))
              clear hB8 HU
              go_wp2_with (refine store_hash H9.out rfl rfl rfl rfl ?_)
              exact bodyPost_ret (v := .agg (nums .u8 32 (bf (sha (pad 92 ks ++ hs))))) (results_hash rfl _ _ w.heap.size _ rfl H9.out.row) rfl ⟨by rw [HTG.out], below_row D9.out (Nat.le_refl _) _⟩

theorem dmac_any (A : Option Addr) (ks : List Int) (ca : Nat) (B : Option Addr) (xs : List Int) (cb : Nat) (hk : ks.length ≤ 1000000) (hx : xs.length ≤ 1000000) (w : World)
    (ha : Bys8 w.heap.size w (.slice A ks.length ca) ks) (hb : Bys8 w.heap.size w (.slice B xs.length cb) xs) :
    Calls Tryd.prog 15 #[.slice A ks.length ca, .slice B xs.length cb] w fun e w' => e = .returned (.agg (nums .u8 32 (bf (tag ks xs)))) ∧ Below w.heap.size w w' := by
  by_cases hl : 64 < ks.length
  · exact dmac_long A ks ca B xs cb hl hk hx w ha hb
  · exact dmac_short A ks ca B xs cb (by omega) hx w ha hb
end Go.Proofs.YtkhhejkemkldgaaDoor
