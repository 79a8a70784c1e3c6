/- The walk of the statement MacTags. -/
import Derived.Test.YtkhhejkemkldgaaDoorMTagsR
import Derived.Test.YtkhhejkemkldgaaDoorDMac
import Derived.Test.YtkhhejkemkldgaaDoorSEq
set_option linter.unusedVariables false
set_option linter.unusedSimpArgs false
namespace Go.Proofs.YtkhhejkemkldgaaDoor
open Go.RowKit Go.Shelf
theorem At.grown' {T : TypeId} {X Y : World} {b N : Nat} {cs : Array Value} (h : At T X b cs) (hg : X.grownBy Y (some N)) (hne : b ≠ N) : At T Y b cs := (hg.block b h.lt (fun e => hne (by injection e))).trans h
set_option maxRecDepth 100000 in
set_option maxHeartbeats 4000000 in
theorem tags_yes (A : Option Addr) (ks : List Int) (ca : Nat) (B : Option Addr) (xs : List Int) (cb : Nat) (gs : List Int) (n : Int) (hk : ks.length ≤ 300) (hx : xs.length ≤ 1000) (la : ks.length ≤ ca) (lb : xs.length ≤ cb) (hgb : Bytes gs) (hgl : gs.length = 32) (w : World) (hT : Tabs w)
    (ha : Bys8 w.heap.size w (.slice A ks.length ca) ks) (hb : Bys8 w.heap.size w (.slice B xs.length cb) xs) :
    Calls Tryd.prog 4 #[.slice A ks.length ca, .slice B xs.length cb, .agg (nums .u8 32 (bf gs)), .int .i64 n] w fun e w' => e = .returned (.bool true) ∧ Below w.heap.size w w' := by
  have hzh := (zero_of_info zero_hash).1
  have hlt := hT.lt
  have hl1 : ¬ ((300 : Int) < ks.length) := by omega
  have hl2 : ¬ ((1000 : Int) < xs.length) := by omega
  have B0 := Lib.hid ((Below.refl _ w).alloc (Nat.le_refl _) (.cells (nums .u8 32 (bf gs)) 38))
  have Q0 := Lib.hid (At.new 38 w (nums .u8 32 (bf gs)))
  have T0 := Lib.hid (hT.below hlt B0.out)
  have HA := Lib.hid (ha.below B0.out)
  have HB := Lib.hid (hb.below B0.out)
  have hcv := conv_bys8 (hb.below B0.out)
  clear hT ha hb
  go_enter Tryd.func4, Tryd.ntmps4
  go_wp2_with fail
  clear hcv
  generalize w.alloc (.cells (nums .u8 32 (bf gs)) 38) = w0 at *
  have hs0 := B0.out.size
  refine (dmac_any A ks ca B xs cb (by omega) (by omega) w0 (HA.out.mono hs0) (HB.out.mono hs0)).mono ?_
  rintro e w1 ⟨rfl, hB1⟩
  have hs1 := hB1.size
  have B2 : Below w0.heap.size w0 ((w1.alloc (.cells (nums .u8 32 fun _ => 0) 38)).setRow w1.heap.size (nums .u8 32 (bf (tag ks xs)))) := below_row (hB1.alloc hs1 _) hs1 _
  have R1 := Lib.hid (At.new 38 w1 (nums .u8 32 fun _ => 0))
  have R2 := Lib.hid (show At 38 ((w1.alloc (.cells (nums .u8 32 fun _ => 0) 38)).setRow w1.heap.size (nums .u8 32 (bf (tag ks xs)))) w1.heap.size (nums .u8 32 (bf (tag ks xs))) from R1.out.row)
  have Q2 := Lib.hid (Q0.out.below Q0.out.lt B2)
  have T2 := Lib.hid (T0.out.below T0.out.lt B2)
  have D2 := Lib.hid B2
  have hgt : w.heap.size ≠ w1.heap.size := by have := Q0.out.lt; omega
  clear hB1 B2 T0 Q0
  go_wp2_with (refine store_hash R1.out rfl rfl rfl rfl ?_)
  generalize ((w1.alloc (.cells (nums .u8 32 fun _ => 0) 38)).setRow w1.heap.size (nums .u8 32 (bf (tag ks xs)))) = w2 at *
  clear R1 hs1
  generalize w1.heap.size = G1 at *
  have hs2 := D2.out.size
  refine (new_any A ks ca la (by omega) w2 T2.out ((HA.out.below (D2.out.mono hs0)).mono (Nat.le_trans hs0 hs2))).mono ?_
  rintro e w3 ⟨M, rfl, hM, hA3, hB3⟩
  have A3 := Lib.hid hA3
  have D3 := Lib.hid (D2.out.trans (hB3.mono hs2))
  have T3 := Lib.hid (T2.out.below T2.out.lt hB3)
  have R3 := Lib.hid (R2.out.below R2.out.lt hB3)
  have Q3 := Lib.hid (Q2.out.below Q2.out.lt hB3)
  have m1 : G1 ≠ M := by have := R2.out.lt; omega
  have m2 : w.heap.size ≠ M := by have := Q2.out.lt; omega
  have hM2 : 2 ≤ M := by have := T2.out.lt; omega
  have hM0 : w0.heap.size ≤ M := by omega
  clear hA3 hB3 R2 Q2 T2
  go_wp2_with fail
  refine (mwrite_any M (pad 54 ks) (pad 92 ks) xs B cb hM2 (by rw [pad_length]; decide) (by rw [pad_length]; omega) lb w3 T3.out A3.out (fun X hX => ((HB.out.below (D3.out.mono hs0)).apart (by omega) hX).mono (by have := D3.out.size; omega)) HB.out.1).mono ?_
  rintro e w4 ⟨rfl, hA4, hG4⟩
  have A4 := Lib.hid hA4
  have D4 := Lib.hid (D3.out.trans (grown_below hG4 (B := w0.heap.size) hM0 D3.out.size))
  have T4 := Lib.hid (T3.out.grown hG4 hM2)
  have R4 := Lib.hid (R3.out.grown' hG4 m1)
  have Q4 := Lib.hid (Q3.out.grown' hG4 m2)
  clear hA4 hG4 A3 D3 T3 R3 Q3 D2
  go_wp2_with (refine load_hash Q4.out rfl rfl rfl ?_)
  obtain ⟨m, hm⟩ : ∃ m, shortN n = m := ⟨_, rfl⟩
  have hm32 : m ≤ 32 := by rw [← hm]; exact Nat.min_le_right _ _
  obtain ⟨v, hv⟩ : ∃ v, (if (32 : Int) < n then (32 : Int) else n) = v := ⟨_, rfl⟩
  have hmx : (if (0 : Int) < v then v else 0) = (m : Int) := by
    rw [← hm, ← hv]; unfold shortN; split <;> split <;> omega
  have hsh := short_any gs hgb hgl n w4
  rw [hm] at hsh
  have HGL := Lib.hid hgl
  clear hgl hm
  refine hsh.mono ?_
  rintro e w5 ⟨sa, sd, rfl, hO5, hB5⟩
  have hs5 := hB5.size
  have B5 := Lib.hid hB5
  have A5 := Lib.hid (A4.out.below hB5 A4.out.lt)
  have D5 := Lib.hid (D4.out.trans (hB5.mono D4.out.size))
  have T5 := Lib.hid (T4.out.below T4.out.lt hB5)
  have R5 := Lib.hid (R4.out.below R4.out.lt hB5)
  have Q5 := Lib.hid (Q4.out.below Q4.out.lt hB5)
  have S5 := Lib.hid hO5.bys
  clear hB5 hO5 A4 D4 T4 R4 Q4 hsh
  go_wp2_with fail
  clear hv hmx
  go_loopw [14] (fun iv wr => ∃ k q : Nat, k ≤ m ∧ iv = .int .i64 k ∧ wr = w5.drewN q) (fun iv _ => m - (intOf iv).toNat)
  case atStart => exact ⟨0, 0, by omega, rfl, rfl⟩
  case round =>
    obtain ⟨k, q, hk, rfl, hwq⟩ := hrel
    by_cases hlt : k < m
    · have hki : (k : Int) < m := by omega
      have hk32 : (k : Int) < 32 := by omega
      obtain ⟨_, ⟨e, _⟩ | ⟨b, off, cap, e, hbl, hcs⟩⟩ := S5.out
      · have : (gs.take m).length = m := by rw [List.length_take, HGL.out]; omega
        rw [e] at this; simp at this; omega
      have htl : (gs.take m).length = m := by rw [List.length_take, HGL.out]; omega
      rw [htl] at e
      obtain rfl : sa = some ⟨b, off, none⟩ := by injection e
      have c0 : wr.cell? ⟨b, off + k, none⟩ = some (.int .u8 (bf gs k)) := by
        rw [hwq]
        refine (hcs k (by rw [htl]; exact hlt)).trans ?_
        simp [bf, List.getD, hlt, List.getElem?_take_of_lt]
      have c1 : wr.cell? ⟨w.heap.size, k, none⟩ = some (.int .u8 (bf gs k)) := by rw [hwq]; exact Q5.out.num k (by omega)
      have Hwq := Lib.hid hwq
      clear hwq hcs e htl
      go_wp2_with fail
      go_quiet (fail)
      go_wp2_with fail
      go_roundw
      case rel => exact ⟨k + 1, _, by omega, by go_num, by rw [Hwq.out]; exact World.drewN_drewN _ _ _⟩
      case measure => simp [intOf]; omega
    · obtain rfl : k = m := by omega
      have DQ : Below w5.heap.size w5 wr := by rw [hwq]; exact below_drewN (Below.refl _ _) q
      have A6 := Lib.hid (A5.out.below DQ A5.out.lt)
      have T6 := Lib.hid (T5.out.below T5.out.lt DQ)
      have R6 := Lib.hid (R5.out.below R5.out.lt DQ)
      have Q6 := Lib.hid (Q5.out.below Q5.out.lt DQ)
      have D6 := Lib.hid (D5.out.trans (DQ.mono D5.out.size))
      have hs6 : w0.heap.size ≤ wr.heap.size := D6.out.size
      have eT : tag ks xs = sha (pad 92 ks ++ sha (pad 54 ks ++ xs)) := rfl
      have pl1 : (pad 54 ks).length = 64 := pad_length _ _
      have pl2 : (pad 92 ks).length = 64 := pad_length _ _
      have hHA := fun X (hX : Below wr.heap.size wr X) => (HA.out.below ((D6.out.trans (hX.mono hs6)).mono hs0)).mono (Nat.le_trans hs0 (Nat.le_trans hs6 hX.size))
      have hHB := fun X (hX : Below wr.heap.size wr X) => (HB.out.below ((D6.out.trans (hX.mono hs6)).mono hs0)).mono (Nat.le_trans hs0 (Nat.le_trans hs6 hX.size))
      have hTX := fun X (hX : Below wr.heap.size wr X) => T6.out.below T6.out.lt hX
      have hAX := fun X (hX : Below wr.heap.size wr X) => A6.out.below hX A6.out.lt
      have cOf := Lib.hid (fun X (hX : Below wr.heap.size wr X) => mof_any A ks ca B xs cb la (by omega) lb (by omega) X (hTX X hX) (hHA X hX) (hHB X hX))
      have cSum := Lib.hid (fun X (hX : Below wr.heap.size wr X) => mtag_any M ks xs (by omega) X (hTX X hX) (hAX X hX))
      have cIsT := fun X (hX : Below wr.heap.size wr X) => mis_any M _ _ (bf (tag ks xs)) (by rw [List.length_append, pl1]; omega) (by rw [pl2]; decide) (by rw [pl2]; decide) X (hTX X hX) (hAX X hX)
      have cIsG := fun X (hX : Below wr.heap.size wr X) => mis_any M _ _ (bf gs) (by rw [List.length_append, pl1]; omega) (by rw [pl2]; decide) (by rw [pl2]; decide) X (hTX X hX) (hAX X hX)
      have cRG := Lib.hid (fun X (hX : Below wr.heap.size wr X) => mright_any A B ks xs ca cb (bf gs) la (by omega) lb (by omega) X (hTX X hX) (hHA X hX) (hHB X hX))
      have cRT := fun X (hX : Below wr.heap.size wr X) => mright_any A B ks xs ca cb (bf (tag ks xs)) la (by omega) lb (by omega) X (hTX X hX) (hHA X hX) (hHB X hX)
      rw [← eT] at cIsT cIsG
      rw [sameH_refl] at cIsT cRT
      have CIsT := Lib.hid cIsT
      have CIsG := Lib.hid cIsG
      have CRT := Lib.hid cRT
      have TS6 := Lib.hid (show TS G1 w.heap.size (bf (tag ks xs)) (bf gs) B xs.length cb w.heap.size xs wr from ⟨R6.out, Q6.out, HB.out.below (D6.out.mono hs0), Nat.le_trans hs0 hs6⟩)
      clear hwq hHA hHB hTX hAX cIsT cIsG cRT eT pl1 pl2 DQ
      go_wp2_with fail
      refine region_mtags rfl rfl (by kernel_rfl) _ _ _ _ _ _ _ _ _ _ _ _ _ _ _ _ _ _ _ _ _ _ _ _ _ _ _ _ _ _ _ _ _ _ _ _ _ _ _ _ _ _ _ _ _ _ _ _ _ _ _ _ _ _ rfl rfl rfl rfl rfl rfl rfl rfl rfl rfl rfl rfl rfl rfl rfl rfl rfl rfl rfl rfl rfl rfl rfl rfl rfl rfl rfl rfl rfl rfl rfl rfl rfl rfl rfl rfl rfl rfl rfl rfl rfl rfl rfl rfl rfl rfl rfl rfl rfl rfl rfl rfl rfl rfl rfl rfl rfl rfl rfl rfl rfl rfl rfl rfl rfl rfl rfl rfl rfl rfl rfl rfl rfl rfl rfl rfl rfl rfl rfl rfl rfl rfl rfl rfl rfl rfl rfl rfl rfl rfl rfl rfl rfl rfl rfl rfl rfl rfl rfl rfl rfl rfl rfl rfl rfl rfl rfl rfl rfl rfl rfl rfl rfl rfl rfl rfl rfl rfl rfl rfl rfl rfl rfl rfl rfl rfl rfl rfl rfl rfl rfl rfl rfl rfl rfl rfl rfl rfl rfl rfl rfl rfl rfl rfl rfl rfl rfl rfl rfl rfl rfl rfl rfl rfl rfl rfl rfl rfl rfl rfl rfl rfl rfl rfl rfl rfl rfl rfl rfl rfl rfl rfl rfl rfl rfl rfl rfl rfl rfl rfl rfl rfl rfl rfl rfl rfl rfl rfl rfl rfl rfl rfl rfl rfl rfl rfl rfl rfl rfl rfl rfl rfl rfl rfl rfl rfl rfl rfl rfl rfl rfl rfl rfl rfl rfl rfl (by kernel_rfl) (by kernel_rfl) (by kernel_rfl) (by kernel_rfl) (by kernel_rfl) (by kernel_rfl) (by kernel_rfl) (by kernel_rfl) (by kernel_rfl) (by kernel_rfl) (by kernel_rfl) (by kernel_rfl) (by kernel_rfl) (by kernel_rfl) (by kernel_rfl) (by kernel_rfl) (by kernel_rfl) (by kernel_rfl) (by kernel_rfl) (by kernel_rfl) (by kernel_rfl) (by kernel_rfl) (by kernel_rfl) (by kernel_rfl) (by kernel_rfl) (by kernel_rfl) (by kernel_rfl) (by kernel_rfl) (by kernel_rfl) (by kernel_rfl) (by kernel_rfl) (by kernel_rfl) (by kernel_rfl) (by kernel_rfl) (by kernel_rfl) (by kernel_rfl) (by kernel_rfl) (by kernel_rfl) (by kernel_rfl) (by kernel_rfl) (by kernel_rfl) (by kernel_rfl) (by kernel_rfl) (by kernel_rfl) (by kernel_rfl) (by kernel_rfl) (by kernel_rfl) (by kernel_rfl) (by kernel_rfl) (by kernel_rfl) (by kernel_rfl) (by kernel_rfl) (by kernel_rfl) (by kernel_rfl) (by kernel_rfl) (by kernel_rfl) (by kernel_rfl) (by kernel_rfl) (by kernel_rfl) (by kernel_rfl) (by kernel_rfl) (by kernel_rfl) (by kernel_rfl) (by kernel_rfl) (by kernel_rfl) (by kernel_rfl) (by kernel_rfl) (by kernel_rfl) (by kernel_rfl) (by kernel_rfl) (by kernel_rfl) (by kernel_rfl) (by kernel_rfl) (by kernel_rfl) (by kernel_rfl) (by kernel_rfl) (by kernel_rfl) (by kernel_rfl) (by kernel_rfl) (by kernel_rfl) (by kernel_rfl) (by kernel_rfl) (by kernel_rfl) (by kernel_rfl) (by kernel_rfl) (by kernel_rfl) (by kernel_rfl) (by kernel_rfl) (by kernel_rfl) (by kernel_rfl) (by kernel_rfl) (by kernel_rfl) (by kernel_rfl) (by kernel_rfl) (by kernel_rfl) (by kernel_rfl) (by kernel_rfl) (by kernel_rfl) (by kernel_rfl) (by kernel_rfl) (by kernel_rfl) (by kernel_rfl) (by kernel_rfl) _ rfl G1 w.heap.size (bf (tag ks xs)) (bf gs) A B sa ks.length ca xs.length cb M k sd w.heap.size xs wr TS6.out cOf.out cSum.out CIsT.out CIsG.out cRG.out CRT.out rfl rfl rfl rfl rfl rfl rfl rfl ?_
      intro X hX
      have DX := Lib.hid (B0.out.trans ((D6.out.trans (hX.mono hs6)).mono hs0))
      clear hX cOf cSum CIsT CIsG cRG CRT TS6
      simp only [Act.put, List.setIfInBounds_toArray, List.set_cons_zero, List.set_cons_succ]
      go_wp2
      go_ret
      exact ⟨rfl, DX.out⟩
theorem tags_far (A : Option Addr) (la ca : Nat) (B : Option Addr) (lb cb : Nat) (gs : List Int) (n : Int) (w : World) (h : ¬ (la ≤ 300 ∧ lb ≤ 1000)) :
    Calls Tryd.prog 4 #[.slice A la ca, .slice B lb cb, .agg (nums .u8 32 (bf gs)), .int .i64 n] w fun e w' => e = .returned (.bool true) ∧ Below w.heap.size w w' := by
  have hor : (300 < la) ∨ (la ≤ 300 ∧ 1000 < lb) := by omega
  clear h
  rcases hor with h1 | ⟨h1, h2⟩
  all_goals (
    go_enter Tryd.func4, Tryd.ntmps4
    go_wp2
    go_ret
    exact ⟨rfl, (Below.refl _ _).alloc (Nat.le_refl _) _⟩)
theorem tags_any (a : Option Addr) (la ca : Nat) (za : List Int) (b : Option Addr) (lb cb : Nat) (zb : List Int) (gs : List Int) (n : Int) (w : World) (hT : Tabs w) (ha : IsRow .u8 w a la ca za) (hb : IsRow .u8 w b lb cb zb) (hg : Bytes gs ∧ gs.length = 32) (hn : (Lit.int .i64 n).wf = true) :
    Calls Tryd.prog 4 #[.slice a la ca, .slice b lb cb, .agg (nums .u8 32 (bf gs)), .int .i64 n] w fun e w' => e = .returned (.bool true) ∧ Below w.heap.size w w' := by
  by_cases h : la ≤ 300 ∧ lb ≤ 1000
  · obtain ⟨xs, rfl, hI⟩ := bys8_of_row ha
    obtain ⟨ys, rfl, hJ⟩ := bys8_of_row hb
    exact tags_yes a xs ca b ys cb gs n h.1 h.2 (row_le ha) (row_le hb) hg.1 hg.2 w hT hI hJ
  · exact tags_far a la ca b lb cb gs n w h
end Go.Proofs.YtkhhejkemkldgaaDoor
