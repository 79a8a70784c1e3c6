/- The walk of the statement MacNames. -/
import Derived.Test.YtkhhejkemkldgaaDoorMAlive
import Derived.Test.YtkhhejkemkldgaaDoorMIs
import Derived.Test.YtkhhejkemkldgaaDoorMShort
set_option linter.unusedVariables false
set_option linter.unusedSimpArgs false
namespace Go.Proofs.YtkhhejkemkldgaaDoor
open Go.RowKit Go.Shelf
/-- Behind a guard that is met. -/
theorem load_hash_g {ops : Array Oper} {rest : List Oper} {o : Oper} {a : Act} {w : World} {Q : Exit → Act → World → Prop} {x : Operand} {g : Nat} {f : Nat → Int} (hg : At 38 w g (nums .u8 32 f))
    (hw : Region.wanted o (yielded ops a.tmps) = true) (ho : o.op = .load 38 x) (hx : a.eval x = .pointer (some ⟨g, 0, none⟩))
    (h : wpList Tryd.prog ops Q rest (a.put o.dst (.agg (nums .u8 32 f))) w) : wpList Tryd.prog ops Q (o :: rest) a w := by
  unfold wpList
  rw [if_pos hw]
  exact .inl (wp_of_runT (exec_loadhash ho hx hg) h)
theorem build_hash_g {ops : Array Oper} {rest : List Oper} {o : Oper} {a : Act} {w : World} {Q : Exit → Act → World → Prop}
    (hw : Region.wanted o (yielded ops a.tmps) = true) (ho : o.op = .build 38 #[]) (h : wpList Tryd.prog ops Q rest (a.put o.dst (.agg (nums .u8 32 fun _ => 0))) w) : wpList Tryd.prog ops Q (o :: rest) a w := by
  have e : ((#[] : Array (Nat × Operand)).map fun (i, x) => (i, a.eval x)).toList = [] := by simp
  unfold wpList
  rw [if_pos hw]
  refine .inl (wp_build 38 #[] ho (by rw [e, built_hash]; rfl) ?_)
  rw [e, built_hash]; exact h
def elev (k j : Nat) : Int := if j < k then 11 else 0
theorem elev_bd (k j : Nat) : 0 ≤ elev k j ∧ elev k j < 256 := by unfold elev; split <;> omega
theorem elev_all : (List.range 20).map (elev 20) = [11, 11, 11, 11, 11, 11, 11, 11, 11, 11, 11, 11, 11, 11, 11, 11, 11, 11, 11, 11] := by decide
theorem elev_step (k : Nat) : (fun j => if j = k then (11 : Int) else elev k j) = elev (k + 1) := by
  funext j
  unfold elev
  by_cases h : j = k
  · subst h; simp
  · by_cases h2 : j < k
    · simp [h, h2, show j < k + 1 by omega]
    · simp [h, h2, show ¬ j < k + 1 by omega]
set_option maxRecDepth 100000 in
set_option maxHeartbeats 2000000 in
theorem names_any (w : World) (hT : Tabs w) :
    Calls Tryd.prog 5 #[] w fun e w' => e = .returned (.bool true) ∧ Below w.heap.size w w' := by
  have hzh := (zero_of_info zero_hash).1
  have hzm := (zero_of_info zero_mac).1
  have hlt := hT.lt
  have HT := Lib.hid hT
  obtain ⟨i0, hi, hz0, hz1, hz2⟩ := parts8
  have HI0 := Lib.hid hi
  have HZ0 := Lib.hid hz0
  have HZ1 := Lib.hid hz1
  have HZ2 := Lib.hid hz2
  clear hi hz0 hz1 hz2 hT
  go_enter Tryd.func5, Tryd.ntmps5
  go_wp2_with (at_make; refine wpList_make_full _ rfl _ _ 33 rfl w.heap.size 5 i0 (.int .u8 0) 1 Tryd.underlying33 HI0.out HZ0.out HZ1.out _ _ _ _ 20 rfl rfl (by omega) (by omega) (by rw [HZ2.out]; omega) (by unfold maxLen; omega) (Nat.le_refl _) ?_; intro w1 hO1 hG1; have hR1 := Lib.hid (show Row8 w.heap.size 20 (fun _ => 0) w1 from Row8.of_owns hO1 (fun j hj => made8_zero 20 j hj)); have HO1 := Lib.hid hO1; have HG1 := Lib.hid hG1; clear hO1 hG1)
  have hB1 : Below w.heap.size w w1 := (Below.refl _ _).grown HG1.out (Nat.le_refl _) (by simp)
  have hg1 : w.heap.size < w1.heap.size := by
    rcases HO1.out.2 with ⟨e, _⟩ | ⟨g', cap', cur, e, hg, hb, _⟩
    · cases e
    · cases e; exact (Array.getElem?_eq_some_iff.1 hb).1
  have HB1 := Lib.hid hB1
  clear hB1 HO1 HG1
  go_loopw [2] (fun iv wr => ∃ k : Nat, k ≤ 20 ∧ iv = .int .i64 k ∧ Row8 w.heap.size 20 (elev k) wr ∧ w.heap.size < wr.heap.size ∧ Below w.heap.size w wr) (fun iv _ => 20 - (intOf iv).toNat)
  case atStart => exact ⟨0, by omega, rfl, hR1.out.congr (fun j hj => by simp [elev]), hg1, HB1.out⟩
  case round =>
    clear hR1 hg1 HB1
    obtain ⟨k, hk, rfl, hR, hgr, hBr⟩ := hrel
    by_cases hlt2 : k < 20
    · have hki : (k : Int) < 20 := by omega
      have cx := (hR k hlt2).1
      have fx := (hR k hlt2).2
      have hR2 := hR.set k 11
      rw [elev_step] at hR2
      have HR := Lib.hid hR2
      have HB := Lib.hid (hBr.setCell (p := ⟨w.heap.size, k, none⟩) (Nat.le_refl _) (.int .u8 11))
      clear hR hR2 hBr
      go_wp2
      exact ⟨⟨k + 1, by omega, by go_num, HR.out, by simpa using hgr, HB.out⟩, by simp [intOf]; omega⟩
    · obtain rfl : k = 20 := by omega
      have hkb := hR.bys (fun j _ => elev_bd 20 j) hgr 20
      rw [elev_all] at hkb
      have B2 : Below wr.heap.size wr (wr.alloc (.cells #[.int .u8 72, .int .u8 105, .int .u8 32, .int .u8 84, .int .u8 104, .int .u8 101, .int .u8 114, .int .u8 101] 5 (8, 9))) := (Below.refl _ wr).alloc (Nat.le_refl _) _
      have hs : w.heap.size ≤ wr.heap.size := hBr.size
      have T2 := Lib.hid (HT.out.below hlt (hBr.trans (B2.mono hs)))
      have hm := lit_bys wr.heap.size wr _ rfl [72, 105, 32, 84, 104, 101, 114, 101] (by decide) #[.int .u8 72, .int .u8 105, .int .u8 32, .int .u8 84, .int .u8 104, .int .u8 101, .int .u8 114, .int .u8 101] rfl 8 rfl (8, 9) (Below.refl _ _)
      have HO := Lib.hid (mof_any (some ⟨w.heap.size, 0, none⟩) [11, 11, 11, 11, 11, 11, 11, 11, 11, 11, 11, 11, 11, 11, 11, 11, 11, 11, 11, 11] 20 (some ⟨wr.heap.size, 0, none⟩) [72, 105, 32, 84, 104, 101, 114, 101] 8 (by decide) (by decide) (by decide) (by decide) _ T2.out ((hkb.below B2).mono B2.size) hm)
      have hc := conv_lit wr.heap.size wr rfl #[.int .u8 72, .int .u8 105, .int .u8 32, .int .u8 84, .int .u8 104, .int .u8 101, .int .u8 114, .int .u8 101] 8 rfl
      have D2 := Lib.hid (hBr.trans (B2.mono hs))
      have TX := Lib.hid text_hi
      have TB := Lib.hid (tag_bytes [11, 11, 11, 11, 11, 11, 11, 11, 11, 11, 11, 11, 11, 11, 11, 11, 11, 11, 11, 11] [72, 105, 32, 84, 104, 101, 114, 101])
      have TL := Lib.hid (show (tag [11, 11, 11, 11, 11, 11, 11, 11, 11, 11, 11, 11, 11, 11, 11, 11, 11, 11, 11, 11] [72, 105, 32, 84, 104, 101, 114, 101]).length = 32 from sha_length _)
      obtain ⟨T, hTT⟩ : ∃ T, tag [11, 11, 11, 11, 11, 11, 11, 11, 11, 11, 11, 11, 11, 11, 11, 11, 11, 11, 11, 11] [72, 105, 32, 84, 104, 101, 114, 101] = T := ⟨_, rfl⟩
      rw [hTT] at HO TX TB TL
      clear hTT hkb B2 hm hR hBr
      go_wp2_with fail
      refine HO.out.mono ?_
      rintro e w3 ⟨rfl, hB3⟩
      have D3 := Lib.hid (D2.out.trans (hB3.mono D2.out.size))
      have hs3 : w.heap.size ≤ w3.heap.size := D3.out.size
      clear hB3 HO D2 T2
      have H3 := Lib.hid (At.new 38 w3 (nums .u8 32 fun _ => 0))
      have H4 := Lib.hid ((show At 38 ((w3.alloc (.cells (nums .u8 32 fun _ => 0) 38)).setRow w3.heap.size (nums .u8 32 (bf T))) w3.heap.size (nums .u8 32 (bf T)) from H3.out.row).alloc (.cells mac0 51))
      have hz4 : ((w3.alloc (.cells (nums .u8 32 fun _ => 0) 38)).setRow w3.heap.size (nums .u8 32 (bf T))).heap.size = w3.heap.size + 1 := by rw [size_setRow]; simp
      have M4 := macAt_zero (At.new 51 ((w3.alloc (.cells (nums .u8 32 fun _ => 0) 38)).setRow w3.heap.size (nums .u8 32 (bf T))) mac0)
      rw [hz4] at M4
      have HM4 := Lib.hid M4
      have D4 := Lib.hid ((below_row (D3.out.alloc hs3 (.cells (nums .u8 32 fun _ => 0) 38)) hs3 (nums .u8 32 (bf T))).alloc (by rw [hz4]; omega) (.cells mac0 51))
      clear M4
      go_wp2_with (refine store_hash H3.out rfl rfl rfl rfl ?_)
      clear hz4 H3 D3
      refine (mwrite_nil _ _ _ _).mono ?_
      rintro e w' ⟨rfl, rfl⟩
      go_wp2_with fail
      refine (mwrite_none (w3.heap.size + 1) [] _ _ _ _ HM4.out).mono ?_
      rintro e w' ⟨rfl, rfl⟩
      generalize (((w3.alloc (.cells (nums .u8 32 fun _ => 0) 38)).setRow w3.heap.size (nums .u8 32 (bf T))).alloc (.cells mac0 51)) = w4 at *
      have hs4 : w.heap.size ≤ w4.heap.size := D4.out.size
      obtain ⟨G, hG⟩ : ∃ G, w3.heap.size = G := ⟨_, rfl⟩
      rw [hG] at H4 HM4 ⊢
      clear hG hs3
      have he := eq_hash (fun _ => 0)
      go_wp2_with fail
      refine (alive_any w4 (HT.out.below hlt D4.out)).mono ?_
      rintro e w5 ⟨rfl, hB5⟩
      have H5 := Lib.hid (H4.out.below H4.out.lt hB5)
      have M5 := Lib.hid (HM4.out.below hB5 HM4.out.lt)
      have D5 := Lib.hid (D4.out.trans (hB5.mono D4.out.size))
      clear hB5 H4 HM4 D4
      go_wp2_with (refine load_hash_g H5.out rfl rfl rfl ?_)
      refine (text_any T TB.out w5).mono ?_
      rintro e w6 ⟨rfl, hB6⟩
      rw [TX.out]
      have H6 := Lib.hid (H5.out.below H5.out.lt hB6)
      have M6 := Lib.hid (M5.out.below hB6 M5.out.lt)
      have D6 := Lib.hid (D5.out.trans (hB6.mono D5.out.size))
      clear hB6 H5 M5 D5
      go_wp2_with fail
      refine (msum_nil w6).mono ?_
      rintro e w7 ⟨rfl, hB7⟩
      have H7 := Lib.hid (H6.out.below H6.out.lt hB7)
      have M7 := Lib.hid (M6.out.below hB7 M6.out.lt)
      have D7 := Lib.hid (D6.out.trans (hB7.mono D6.out.size))
      clear hB7 H6 M6 D6
      go_wp2_with (refine build_hash_g rfl rfl ?_)
      refine (msum_none _ [] w7 M7.out).mono ?_
      rintro e w8 ⟨rfl, hB8⟩
      have H8 := Lib.hid (H7.out.below H7.out.lt hB8)
      have D8 := Lib.hid (D7.out.trans (hB8.mono D7.out.size))
      clear hB8 H7 M7 D7
      go_wp2_with (refine build_hash_g rfl rfl ?_)
      refine (mis_nil (fun _ => 0) w8).mono ?_
      rintro e w9 ⟨rfl, hB9⟩
      have H9 := Lib.hid (H8.out.below H8.out.lt hB9)
      have D9 := Lib.hid (D8.out.trans (hB9.mono D8.out.size))
      clear hB9 H8 D8
      go_wp2_with fail
      refine (mcopy_nil w9).mono ?_
      rintro e w' ⟨rfl, rfl⟩
      go_wp2_with (refine load_hash_g H9.out rfl rfl rfl ?_)
      refine (short_any T TB.out TL.out (-1) w9).mono ?_
      rintro e w10 ⟨a, d, rfl, hO, hB⟩
      rw [show shortN (-1) = 0 by decide]
      have H10 := Lib.hid (H9.out.below H9.out.lt hB)
      have D10 := Lib.hid (D9.out.trans (hB.mono D9.out.size))
      clear hB hO H9 D9
      go_wp2_with (refine load_hash_g H10.out rfl rfl rfl ?_)
      refine (short_any T TB.out TL.out 99 w10).mono ?_
      rintro e w11 ⟨a2, d2, rfl, hO, hB⟩
      rw [show shortN 99 = 32 by decide]
      have D11 := Lib.hid (D10.out.trans (hB.mono D10.out.size))
      clear hB hO H10 D10
      go_wp2
      go_ret
      exact ⟨by simp, D11.out⟩
end Go.Proofs.YtkhhejkemkldgaaDoor
