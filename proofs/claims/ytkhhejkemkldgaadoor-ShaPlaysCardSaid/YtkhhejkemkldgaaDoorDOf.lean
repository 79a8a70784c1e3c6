/- The document's hash of bytes. -/
import Derived.Test.YtkhhejkemkldgaaDoorDOfA
set_option linter.unusedVariables false
set_option linter.unusedSimpArgs false
namespace Go.Proofs.YtkhhejkemkldgaaDoor
open Go.RowKit Go.Shelf
theorem own_at {base g n c : Nat} {w : World} {xs : List Int} (h : Own8 base w (.slice (some ⟨g, 0, none⟩) n c) xs) : ∃ cur, At 5 w g cur ∧ n ≤ c ∧ n = xs.length ∧ ∀ j, j < xs.length → cur[j]? = some (.int .u8 (xs.getD j 0)) := by
  rcases h.2.2 with ⟨e, e2⟩ | ⟨g', cap, cur, e, hg, hb, hn, hm, hs, ht⟩
  · cases e
  · cases e
    refine ⟨cur, hb, hn, rfl, fun j hj => ?_⟩
    have e1 := vals8_get xs j hj
    rw [← ht, Nat.mul_one, List.getElem?_take_of_lt hj] at e1
    simpa using e1
set_option maxRecDepth 100000 in
set_option maxHeartbeats 4000000 in
theorem dof_any (A : Option Addr) (xs : List Int) (cb : Nat) (hr : xs.length ≤ 100000000000) (w : World) (hb : Bys8 w.heap.size w (.slice A xs.length cb) xs) :
    Calls Tryd.prog 11 #[.slice A xs.length cb] w fun e w' => e = .returned (.agg (nums .u8 32 (bf (sha xs)))) ∧ Below w.heap.size w w' := by
  have hz := (zero_of_info zero_hash).1
  have hzw := (zero_of_info zero_words).1
  have h0 := At.new 38 w (nums .u8 32 fun _ => 0)
  have hB0 : Below w.heap.size w (w.alloc (.cells (nums .u8 32 fun _ => 0) 38)) := (Below.refl _ w).alloc (Nat.le_refl _) _
  have HB := Lib.hid hb
  clear hb
  go_enter Tryd.func11, Tryd.ntmps11
  go_wp2_with fail
  generalize w.alloc (.cells (nums .u8 32 fun _ => 0) 38) = w0 at *
  have H0 := Lib.hid h0
  have HB0 := Lib.hid hB0
  clear h0 hB0
  refine (dconst_any _).mono ?_
  rintro e w1 ⟨rfl, hK, hB1⟩
  have HK := Lib.hid hK
  have HB1 := Lib.hid hB1
  clear hK hB1
  go_wp2_with fail
  refine (dfirst_any _).mono ?_
  rintro e w2 ⟨rfl, hF, hB2⟩
  have HF := Lib.hid hF
  have HB2 := Lib.hid hB2
  clear hF hB2
  go_wp2_with fail
  have s0 := Lib.hid (show w.heap.size < w0.heap.size from H0.out.lt)
  have s1 := Lib.hid (show w0.heap.size < w1.heap.size from HK.out.lt)
  have s2 := Lib.hid (show w1.heap.size < w2.heap.size from HF.out.lt)
  have HW2 := Lib.hid (show Below w.heap.size w w2 from (HB0.out.trans (HB1.out.mono (Nat.le_of_lt s0.out))).trans (HB2.out.mono (Nat.le_of_lt (Nat.lt_trans s0.out s1.out))))
  refine (message_any A xs cb hr _ ((HB.out.below HW2.out).mono (Nat.le_of_lt (Nat.lt_trans s0.out (Nat.lt_trans s1.out s2.out))))).mono ?_
  rintro e w3 ⟨a, c, rfl, hO, hB3⟩
  have hML := padded_length xs
  have hMp := padding_length xs.length
  have hMB : Bytes (xs ++ padding xs.length) := hO.1
  have hsh : sha xs = joined (plus initial (adds (xs ++ padding xs.length) ((xs ++ padding xs.length).length / 64))) := rfl
  have hMl : 64 ≤ (xs ++ padding xs.length).length := by rw [List.length_append]; rw [List.length_append] at hML; omega
  have hMM : (xs ++ padding xs.length).length ≤ 100000001000 := by
    rw [List.length_append, hMp]
    have : padZeros xs.length < 64 := Nat.mod_lt _ (by decide)
    omega
  generalize xs ++ padding xs.length = M at *
  obtain ⟨N, hN⟩ : ∃ N, M.length = 64 * N := ⟨M.length / 64, by omega⟩
  rw [hN, show 64 * N / 64 = N by omega] at hsh
  obtain ⟨g, rfl, hg1, hg2⟩ := hO.at_ (by omega)
  obtain ⟨cur, hG, hLc, _, hcur⟩ := own_at hO
  have HSH := Lib.hid hsh
  have HCUR := Lib.hid hcur
  have HMB := Lib.hid hMB
  have k3 := HK.out.below s1.out (HB2.out)
  have k4 := Lib.hid (k3.below (Nat.lt_trans s1.out s2.out) hB3)
  have f4 := Lib.hid (HF.out.below s2.out hB3)
  have h4 := Lib.hid (((H0.out.below s0.out HB1.out).below (Nat.lt_trans s0.out s1.out) HB2.out).below (Nat.lt_trans s0.out (Nat.lt_trans s1.out s2.out)) hB3)
  have HG := Lib.hid hG
  have HW3 := Lib.hid (HW2.out.trans (hB3.mono (Nat.le_of_lt (Nat.lt_trans s0.out (Nat.lt_trans s1.out s2.out)))))
  have ord := Lib.hid (show w.heap.size < w0.heap.size ∧ w0.heap.size < w1.heap.size ∧ w1.heap.size < g ∧ g < w3.heap.size from ⟨s0.out, s1.out, Nat.lt_of_lt_of_le s2.out hg1, hg2⟩)
  generalize hL : M.length = L at *
  have HN := Lib.hid hN
  have HL := Lib.hid hL
  clear hO hB3 hML hMp hMB hsh hMl hG hcur hg1 hg2 k3 s0 s1 s2 HB0 HB1 HB2 HW2 H0 HK HF HB hN hL
  generalize w0.heap.size = K at *
  generalize w1.heap.size = F at *
  go_wp2_with fail
  go_loopw [6] (fun iv wr => ∃ n p : Nat, p = 64 * n ∧ n ≤ N ∧ iv = .int .i64 (p : Int) ∧ At 25 wr K (nums .u32 64 (wf roots)) ∧ At 25 wr F (nums .u32 8 (wf (plus initial (adds M n)))) ∧ At 38 wr w.heap.size (nums .u8 32 fun _ => 0) ∧ At 5 wr g cur ∧ Below w.heap.size w wr) (fun iv _ => L - (intOf iv).toNat)
  case atStart => exact ⟨0, 0, rfl, Nat.zero_le _, rfl, k4.out, by rw [plus_zero]; exact f4.out, h4.out, HG.out, HW3.out⟩
  case round =>
    clear k4 f4 h4 HG HW3
    obtain ⟨n, p, hp, hn, rfl, hK, hF, hH, hG, hB⟩ := hrel
    by_cases hlt : n < N
    · have hpl : p + 64 ≤ L := by have := HN.out; omega
      have hpc : p + 64 ≤ c := by omega
      have hbk := bys_blk_at HMB.out hG.lt hG (by rw [HL.out]; exact HCUR.out) p (by rw [HL.out]; exact hpl) n hp (c - p)
      have dw := Lib.hid (dwords_any (blk M n) (blk_bytes HMB.out n) (by simp [blk]) _ _ wr hbk)
      have K1 := Lib.hid hK
      have F1 := Lib.hid hF
      have H1 := Lib.hid hH
      have G1 := Lib.hid hG
      have B1 := Lib.hid hB
      have P := Lib.hid hp
      clear hK hF hH hG hB hbk hp
      go_wp2_with fail
      (with_reducible refine dw.out.mono ?_)
      rintro e w4 ⟨rfl, hB4⟩
      have b7 := At.new 63 w4 (nums .u32 64 fun _ => 0)
      have z4 := hB4.size
      have K2 := Lib.hid (((K1.out.below K1.out.lt hB4).alloc (.cells (nums .u32 64 fun _ => 0) 63)).rowOther (g := w4.heap.size) (nums .u32 64 (wf (words (blk M n)))) (by have := K1.out.lt; omega))
      have F2 := Lib.hid (((F1.out.below F1.out.lt hB4).alloc (.cells (nums .u32 64 fun _ => 0) 63)).rowOther (g := w4.heap.size) (nums .u32 64 (wf (words (blk M n)))) (by have := F1.out.lt; omega))
      have H2 := Lib.hid (((H1.out.below H1.out.lt hB4).alloc (.cells (nums .u32 64 fun _ => 0) 63)).rowOther (g := w4.heap.size) (nums .u32 64 (wf (words (blk M n)))) (by have := H1.out.lt; omega))
      have G2 := Lib.hid (((G1.out.below G1.out.lt hB4).alloc (.cells (nums .u32 64 fun _ => 0) 63)).rowOther (g := w4.heap.size) (nums .u32 64 (wf (words (blk M n)))) (by have := G1.out.lt; omega))
      have W2 := Lib.hid (b7.row (cs' := nums .u32 64 (wf (words (blk M n)))))
      have B2 := Lib.hid (below_row ((B1.out.trans (hB4.mono (by have := B1.out.size; omega))).alloc (by have := B1.out.size; omega) (.cells (nums .u32 64 fun _ => 0) 63)) (g := w4.heap.size) (by have := B1.out.size; omega) (nums .u32 64 (wf (words (blk M n)))))
      have g7 := Lib.hid (show F < w4.heap.size from by have := F1.out.lt; omega)
      have HB7 := Lib.hid b7
      clear b7 K1 F1 H1 G1 B1 hB4 z4 dw
      go_wp2_with (refine store_words HB7.out rfl rfl rfl rfl ?_)
      clear HB7
      generalize (w4.alloc (.cells (nums .u32 64 fun _ => 0) 63)).setRow w4.heap.size (nums .u32 64 (wf (words (blk M n)))) = w5 at *
      generalize w4.heap.size = V at *
      have hSw := plus_words initial (adds M n)
      have hS := Lib.hid (show ∀ j, j < 8 → wf (plus initial (adds M (n + 1))) j = (wf (plus initial (adds M n)) j + wf (comp (plus initial (adds M n)) (blk M n)) j) % 4294967296 from fun j hj => plus_more M n j hj)
      have hcomp : Hid (comp (plus initial (adds M n)) (blk M n) = (turns (Eight.of (plus initial (adds M n))) (words (blk M n)) 64).list) := Lib.hid rfl
      generalize plus initial (adds M n) = S at *
      have HSW := Lib.hid hSw
      have c0 := F2.out.num 0 (by decide)
      have c1 := F2.out.num 1 (by decide)
      have c2 := F2.out.num 2 (by decide)
      have c3 := F2.out.num 3 (by decide)
      have c4 := F2.out.num 4 (by decide)
      have c5 := F2.out.num 5 (by decide)
      have c6 := F2.out.num 6 (by decide)
      have c7 := F2.out.num 7 (by decide)
      clear hSw
      go_wp2_with fail
      go_quiet (fail)
      generalize nq = n1
      go_wp2_with fail
      go_quiet (fail)
      generalize nq = n2
      clear c0 c1 c2 c3 c4 c5 c6 c7
      go_wp2_with fail
      have HWW := Lib.hid (words_words (blk_bytes HMB.out n))
      generalize words (blk M n) = Wl at *
      go_loopw [8, 9, 10, 11, 12, 13, 14, 15, 16] (fun a b c d e f g h i wr => ∃ k q : Nat, k ≤ 64 ∧ i = .int .i64 k ∧ Eights (turns (Eight.of S) Wl k) a b c d e f g h ∧ wr = w5.drewN q) (fun _ _ _ _ _ _ _ _ i _ => 64 - (intOf i).toNat)
      case atStart => exact ⟨0, n1 + n2, by omega, rfl, ⟨rfl, rfl, rfl, rfl, rfl, rfl, rfl, rfl⟩, World.drewN_drewN _ _ _⟩
      case round =>
        obtain ⟨k, q, hk, rfl, he, hwq⟩ := hrel
        have hok := turns_ok HSW.out.eight Wl k
        have HS : Hid (turns (Eight.of S) Wl (k + 1) = turn (turns (Eight.of S) Wl k) (roots.getD k 0) (Wl.getD k 0)) := Lib.hid rfl
        generalize hs : turns (Eight.of S) Wl k = s at hok HS he
        have HQ := Lib.hid hs
        clear hs
        obtain ⟨rfl, rfl, rfl, rfl, rfl, rfl, rfl, rfl⟩ := he
        by_cases hlt : k < 64
        · have ht : wr.cell? ⟨K, k, none⟩ = some (.int .u32 (wf roots k)) := by rw [hwq]; exact K2.out.num k hlt
          have hi : wr.cell? ⟨V, k, none⟩ = some (.int .u32 (wf Wl k)) := by rw [hwq]; exact W2.out.num k hlt
          have hr := roots_words k
          have hw := HWW.out k
          obtain ⟨A, a0, a1, ea⟩ := cast_of hok.1
          obtain ⟨B, b0, b1, eb⟩ := cast_of hok.2.1
          obtain ⟨C, c0, c1, ec⟩ := cast_of hok.2.2.1
          obtain ⟨D, d0, d1, ed⟩ := cast_of hok.2.2.2.1
          obtain ⟨E, e0, e1, ee⟩ := cast_of hok.2.2.2.2.1
          obtain ⟨F', f0, f1, ef⟩ := cast_of hok.2.2.2.2.2.1
          obtain ⟨G, g0, g1, eg⟩ := cast_of hok.2.2.2.2.2.2.1
          obtain ⟨H, h0, h1, eh⟩ := cast_of hok.2.2.2.2.2.2.2
          obtain ⟨X, x0, x1, ex⟩ := cast_of (high1_lt hok.2.2.2.2.1)
          obtain ⟨Y, y0, y1, ey⟩ := cast_of (high0_lt hok.1)
          obtain ⟨R, r0, r1, er⟩ := cast_of hr
          obtain ⟨W, w0', w1, ew⟩ := cast_of hw
          obtain ⟨CH, ch0, ch1, ech⟩ := cast_of (choose_lt (e := s.e) hok.2.2.2.2.2.1 hok.2.2.2.2.2.2.1)
          obtain ⟨MA, ma0, ma1, ema⟩ := cast_of (major_lt (a := s.a) hok.2.1 hok.2.2.1)
          have L1 := high1_says _ hok.2.2.2.2.1
          have L0 := high0_says _ hok.1
          have LC := dchoose_says _ _ _ hok.2.2.2.2.1 hok.2.2.2.2.2.1 hok.2.2.2.2.2.2.1
          have LM := dmajor_says _ _ _ hok.1 hok.2.1 hok.2.2.1
          obtain ⟨P6, p6a, p6b, eP6⟩ := cast_of (rotr_lt 6 _ hok.2.2.2.2.1)
          have hd6 := fun w => dright_any _ 6 hok.2.2.2.2.1 (by omega) (by omega) w
          rw [ee, eP6, show ((6 : Nat) : Int) = 6 from rfl] at hd6
          obtain ⟨P11, p11a, p11b, eP11⟩ := cast_of (rotr_lt 11 _ hok.2.2.2.2.1)
          have hd11 := fun w => dright_any _ 11 hok.2.2.2.2.1 (by omega) (by omega) w
          rw [ee, eP11, show ((11 : Nat) : Int) = 11 from rfl] at hd11
          obtain ⟨P25, p25a, p25b, eP25⟩ := cast_of (rotr_lt 25 _ hok.2.2.2.2.1)
          have hd25 := fun w => dright_any _ 25 hok.2.2.2.2.1 (by omega) (by omega) w
          rw [ee, eP25, show ((25 : Nat) : Int) = 25 from rfl] at hd25
          obtain ⟨P2, p2a, p2b, eP2⟩ := cast_of (rotr_lt 2 _ hok.1)
          have hd2 := fun w => dright_any _ 2 hok.1 (by omega) (by omega) w
          rw [ea, eP2, show ((2 : Nat) : Int) = 2 from rfl] at hd2
          obtain ⟨P13, p13a, p13b, eP13⟩ := cast_of (rotr_lt 13 _ hok.1)
          have hd13 := fun w => dright_any _ 13 hok.1 (by omega) (by omega) w
          rw [ea, eP13, show ((13 : Nat) : Int) = 13 from rfl] at hd13
          obtain ⟨P22, p22a, p22b, eP22⟩ := cast_of (rotr_lt 22 _ hok.1)
          have hd22 := fun w => dright_any _ 22 hok.1 (by omega) (by omega) w
          rw [ea, eP22, show ((22 : Nat) : Int) = 22 from rfl] at hd22
          rw [eP6, eP11, eP25, ex] at L1
          rw [eP2, eP13, eP22, ey] at L0
          rw [ee, ef, eg, ech] at LC
          rw [ea, eb, ec, ema] at LM
          rw [show wf roots k = R from er] at ht
          rw [show wf Wl k = W from ew] at hi
          rw [ea, eb, ec, ed, ee, ef, eg, eh]
          have Ea := Lib.hid ea
          have Eb := Lib.hid eb
          have Ec := Lib.hid ec
          have Ed := Lib.hid ed
          have Ee := Lib.hid ee
          have Ef := Lib.hid ef
          have Eg := Lib.hid eg
          have Eh := Lib.hid eh
          have Ex := Lib.hid ex
          have Ey := Lib.hid ey
          have Er := Lib.hid er
          have Ew := Lib.hid ew
          have Ech := Lib.hid ech
          have Ema := Lib.hid ema
          have OK := Lib.hid hok
          have ti : (k : Int) < 64 := by omega
          clear ea eb ec ed ee ef eg eh ex ey er ew hok hr hw ech ema eP6 eP11 eP25 eP2 eP13 eP22
          have Hwq := Lib.hid hwq
          clear hwq
          go_wp2_with fail
          go_quiet ((first | (with_reducible exact Calls.quiet_of (hd6 _)) | (with_reducible exact Calls.quiet_of (hd11 _)) | (with_reducible exact Calls.quiet_of (hd25 _))))
          go_wp2_with fail
          go_wp2_with (go_at_call 37; first | ((with_reducible refine (hd2 _).mono ?_); rintro e w' ⟨rfl, m2, rfl⟩) | ((with_reducible refine (hd13 _).mono ?_); rintro e w' ⟨rfl, m13, rfl⟩) | ((with_reducible refine (hd22 _).mono ?_); rintro e w' ⟨rfl, m22, rfl⟩))
          go_roundw
          case rel =>
            have ra := Ea.out
            have rb := Eb.out
            have rc := Ec.out
            have rd := Ed.out
            have re := Ee.out
            have rf := Ef.out
            have rg := Eg.out
            have rh := Eh.out
            have rx := Ex.out
            have ry := Ey.out
            have rr := Er.out
            have rw' := Ew.out
            have rch := Ech.out
            have rma := Ema.out
            subst ra rb rc rd re rf rg rh rx ry rr rw' rch rma
            have hww := Hwq.out
            subst hww
            refine ⟨k + 1, _, by omega, by go_num, ?_, World.drewN_drewN _ _ _⟩
            rw [HS.out]
            refine ⟨int_eq ?_, rfl, rfl, rfl, int_eq ?_, rfl, rfl, rfl⟩
            · exact turn_a s _ _
            · exact turn_e s _ _
          case measure => simp [intOf]; omega
        · obtain rfl : k = 64 := by omega
          obtain ⟨X0, x00, x01, ex0⟩ := cast_of (HSW.out 0)
          have c0 : wr.cell? ⟨F, 0, none⟩ = some (.int .u32 X0) := by rw [hwq, ← ex0]; exact F2.out.num 0 (by decide)
          have f0 : wr.frozen? ⟨F, 0, none⟩ = false := by rw [hwq]; exact F2.out.free 0
          obtain ⟨X1, x10, x11, ex1⟩ := cast_of (HSW.out 1)
          have c1 : wr.cell? ⟨F, 1, none⟩ = some (.int .u32 X1) := by rw [hwq, ← ex1]; exact F2.out.num 1 (by decide)
          have f1 : wr.frozen? ⟨F, 1, none⟩ = false := by rw [hwq]; exact F2.out.free 1
          obtain ⟨X2, x20, x21, ex2⟩ := cast_of (HSW.out 2)
          have c2 : wr.cell? ⟨F, 2, none⟩ = some (.int .u32 X2) := by rw [hwq, ← ex2]; exact F2.out.num 2 (by decide)
          have f2 : wr.frozen? ⟨F, 2, none⟩ = false := by rw [hwq]; exact F2.out.free 2
          obtain ⟨X3, x30, x31, ex3⟩ := cast_of (HSW.out 3)
          have c3 : wr.cell? ⟨F, 3, none⟩ = some (.int .u32 X3) := by rw [hwq, ← ex3]; exact F2.out.num 3 (by decide)
          have f3 : wr.frozen? ⟨F, 3, none⟩ = false := by rw [hwq]; exact F2.out.free 3
          obtain ⟨X4, x40, x41, ex4⟩ := cast_of (HSW.out 4)
          have c4 : wr.cell? ⟨F, 4, none⟩ = some (.int .u32 X4) := by rw [hwq, ← ex4]; exact F2.out.num 4 (by decide)
          have f4 : wr.frozen? ⟨F, 4, none⟩ = false := by rw [hwq]; exact F2.out.free 4
          obtain ⟨X5, x50, x51, ex5⟩ := cast_of (HSW.out 5)
          have c5 : wr.cell? ⟨F, 5, none⟩ = some (.int .u32 X5) := by rw [hwq, ← ex5]; exact F2.out.num 5 (by decide)
          have f5 : wr.frozen? ⟨F, 5, none⟩ = false := by rw [hwq]; exact F2.out.free 5
          obtain ⟨X6, x60, x61, ex6⟩ := cast_of (HSW.out 6)
          have c6 : wr.cell? ⟨F, 6, none⟩ = some (.int .u32 X6) := by rw [hwq, ← ex6]; exact F2.out.num 6 (by decide)
          have f6 : wr.frozen? ⟨F, 6, none⟩ = false := by rw [hwq]; exact F2.out.free 6
          obtain ⟨X7, x70, x71, ex7⟩ := cast_of (HSW.out 7)
          have c7 : wr.cell? ⟨F, 7, none⟩ = some (.int .u32 X7) := by rw [hwq, ← ex7]; exact F2.out.num 7 (by decide)
          have f7 : wr.frozen? ⟨F, 7, none⟩ = false := by rw [hwq]; exact F2.out.free 7
          obtain ⟨Y0, y00, y01, ey0⟩ := cast_of hok.1
          obtain ⟨Y1, y10, y11, ey1⟩ := cast_of hok.2.1
          obtain ⟨Y2, y20, y21, ey2⟩ := cast_of hok.2.2.1
          obtain ⟨Y3, y30, y31, ey3⟩ := cast_of hok.2.2.2.1
          obtain ⟨Y4, y40, y41, ey4⟩ := cast_of hok.2.2.2.2.1
          obtain ⟨Y5, y50, y51, ey5⟩ := cast_of hok.2.2.2.2.2.1
          obtain ⟨Y6, y60, y61, ey6⟩ := cast_of hok.2.2.2.2.2.2.1
          obtain ⟨Y7, y70, y71, ey7⟩ := cast_of hok.2.2.2.2.2.2.2
          rw [ey0, ey1, ey2, ey3, ey4, ey5, ey6, ey7]
          have V0 := Lib.hid (show wf (plus initial (adds M (n + 1))) 0 = (X0 + Y0) % 4294967296 from by rw [hS.out 0 (by decide), hcomp.out, HQ.out, ← ex0, ← ey0]; rfl)
          have V1 := Lib.hid (show wf (plus initial (adds M (n + 1))) 1 = (X1 + Y1) % 4294967296 from by rw [hS.out 1 (by decide), hcomp.out, HQ.out, ← ex1, ← ey1]; rfl)
          have V2 := Lib.hid (show wf (plus initial (adds M (n + 1))) 2 = (X2 + Y2) % 4294967296 from by rw [hS.out 2 (by decide), hcomp.out, HQ.out, ← ex2, ← ey2]; rfl)
          have V3 := Lib.hid (show wf (plus initial (adds M (n + 1))) 3 = (X3 + Y3) % 4294967296 from by rw [hS.out 3 (by decide), hcomp.out, HQ.out, ← ex3, ← ey3]; rfl)
          have V4 := Lib.hid (show wf (plus initial (adds M (n + 1))) 4 = (X4 + Y4) % 4294967296 from by rw [hS.out 4 (by decide), hcomp.out, HQ.out, ← ex4, ← ey4]; rfl)
          have V5 := Lib.hid (show wf (plus initial (adds M (n + 1))) 5 = (X5 + Y5) % 4294967296 from by rw [hS.out 5 (by decide), hcomp.out, HQ.out, ← ex5, ← ey5]; rfl)
          have V6 := Lib.hid (show wf (plus initial (adds M (n + 1))) 6 = (X6 + Y6) % 4294967296 from by rw [hS.out 6 (by decide), hcomp.out, HQ.out, ← ex6, ← ey6]; rfl)
          have V7 := Lib.hid (show wf (plus initial (adds M (n + 1))) 7 = (X7 + Y7) % 4294967296 from by rw [hS.out 7 (by decide), hcomp.out, HQ.out, ← ex7, ← ey7]; rfl)
          have K3 := Lib.hid (show At _ wr _ _ from by rw [hwq]; exact K2.out.drewN q)
          have F3 := Lib.hid (show At _ wr _ _ from by rw [hwq]; exact F2.out.drewN q)
          have H3 := Lib.hid (show At _ wr _ _ from by rw [hwq]; exact H2.out.drewN q)
          have G3 := Lib.hid (show At _ wr _ _ from by rw [hwq]; exact G2.out.drewN q)
          have B3 := Lib.hid (show Below _ _ wr from by rw [hwq]; exact below_drewN B2.out q)
          clear hwq hok ex0 ex1 ex2 ex3 ex4 ex5 ex6 ex7 ey0 ey1 ey2 ey3 ey4 ey5 ey6 ey7 K2 F2 H2 G2 B2 W2 HS
          go_wp2_with fail
          go_roundw
          case rel =>
            have ho := ord.out
            refine ⟨n + 1, p + 64, by have := P.out; omega, by omega, by go_num, other8 K3.out (by omega) _ _ _ _ _ _ _ _, put8 F3.out _ _ _ _ _ _ _ _ V0.out V1.out V2.out V3.out V4.out V5.out V6.out V7.out, other8 H3.out (by omega) _ _ _ _ _ _ _ _, other8 G3.out (by omega) _ _ _ _ _ _ _ _, below8 B3.out (by omega) _ _ _ _ _ _ _ _⟩
          case measure => simp [intOf]; omega
    · obtain rfl : n = N := by omega
      obtain rfl : p = L := by have := HN.out; omega
      have hSw := plus_words initial (adds M n)
      generalize plus initial (adds M n) = S at *
      have HSW := Lib.hid hSw
      have F1 := Lib.hid (hF.alloc (.cells (nums .u8 32 fun _ => 0) 38))
      have H1 := Lib.hid (hH.alloc (.cells (nums .u8 32 fun _ => 0) 38))
      have O1 := Lib.hid (At.new 38 wr (nums .u8 32 fun _ => 0))
      have B1 := Lib.hid (hB.alloc (by have := hB.size; omega) (.cells (nums .u8 32 fun _ => 0) 38))
      have o1 := Lib.hid (show w.heap.size < wr.heap.size ∧ F < wr.heap.size from ⟨hH.lt, hF.lt⟩)
      clear hK hF hH hG hB hp hSw HCUR HN HL hn hlt
      go_wp2_with fail
      generalize wr.alloc (.cells (nums .u8 32 fun _ => 0) 38) = w4 at *
      generalize wr.heap.size = O at *
      go_loopw [20] (fun iv wr => ∃ i : Nat, i ≤ 8 ∧ iv = .int .i64 i ∧ At 38 wr O (nums .u8 32 (jx S (4 * i))) ∧ At 25 wr F (nums .u32 8 (wf S)) ∧ At 38 wr w.heap.size (nums .u8 32 fun _ => 0) ∧ Below w.heap.size w wr) (fun iv _ => 8 - (intOf iv).toNat)
      case atStart => exact ⟨0, by omega, rfl, by rw [Nat.mul_zero, ← jx_zero]; exact O1.out, F1.out, H1.out, B1.out⟩
      case round =>
        clear O1 F1 H1 B1
        obtain ⟨i, hi, rfl, hO, hF, hH, hB⟩ := hrel
        have O2 := Lib.hid hO
        have F2 := Lib.hid hF
        have H2 := Lib.hid hH
        have B2 := Lib.hid hB
        clear hO hF hH hB
        by_cases hlt : i < 8
        · go_wp2_with fail
          rw [show decide ((i : Int) < 8) = true from by simp; omega]
          go_loopw [21] (fun kv wr => ∃ k : Nat, k ≤ 4 ∧ kv = .int .i64 k ∧ At 38 wr O (nums .u8 32 (jx S (4 * i + k))) ∧ At 25 wr F (nums .u32 8 (wf S)) ∧ At 38 wr w.heap.size (nums .u8 32 fun _ => 0) ∧ Below w.heap.size w wr) (fun kv _ => 4 - (intOf kv).toNat)
          case atStart => exact ⟨0, by omega, rfl, O2.out, F2.out, H2.out, B2.out⟩
          case round =>
            clear O2 F2 H2 B2
            obtain ⟨k, hk, rfl, hO, hF, hH, hB⟩ := hrel
            by_cases hk4 : k < 4
            · have hc := hF.num i hlt
              have ho := hO.num (4 * i + k) (by omega)
              have fo := hO.free (4 * i + k)
              obtain ⟨x, x0, x1, ex⟩ := cast_of (HSW.out i)
              rw [show wf S i = x from ex] at hc
              have hj := joined_get S (4 * i + k) (by omega)
              rw [show (4 * i + k) / 4 = i by omega, show (4 * i + k) % 4 = k by omega] at hj
              have hv : x / 2 ^ (24 - 8 * k) % 256 = bf (joined S) (4 * i + k) := by
                rw [hj, ← ex]; simp
              have hvb : 0 ≤ x / 2 ^ (24 - 8 * k) % 256 ∧ x / 2 ^ (24 - 8 * k) % 256 < 256 := by omega
              have HV := Lib.hid hv
              have HJ := Lib.hid (jx_set S (4 * i + k))
              have O3 := Lib.hid hO
              have F3 := Lib.hid hF
              have H3 := Lib.hid hH
              have B3 := Lib.hid hB
              have T := Lib.hid (And.intro hlt hk4)
              have s0 : IntKind.i64.wrap (4 * (i : Int)) = 4 * (i : Int) := by rw [IntKind.wrap_i64]; omega
              obtain ⟨m, rm, sm, im⟩ : ∃ m : Nat, 4 * i + k = m ∧ IntKind.i64.wrap (4 * (i : Int) + (k : Int)) = (m : Int) ∧ (m : Int) < 32 := ⟨4 * i + k, rfl, by rw [IntKind.wrap_i64]; omega, by omega⟩
              have s1 : IntKind.i64.wrap (8 * (k : Int)) = 8 * (k : Int) := by rw [IntKind.wrap_i64]; omega
              obtain ⟨t, rt, st⟩ : ∃ t : Nat, 24 - 8 * k = t ∧ IntKind.i64.wrap (24 - 8 * (k : Int)) = (t : Int) := ⟨24 - 8 * k, rfl, by rw [IntKind.wrap_i64]; omega⟩
              have ii : (i : Int) < 8 := by omega
              have ki : (k : Int) < 4 := by omega
              rw [rm] at ho fo
              have RM := Lib.hid rm
              have RT := Lib.hid rt
              clear hO hF hH hB ex hj hv hvb rm rt
              go_wp2_with fail
              go_roundw
              case rel =>
                have hT := T.out
                have ho := o1.out
                have hm := RM.out
                have ht := RT.out
                have hp : x / 2 ^ min t 32 % 256 = bf (joined S) (4 * i + k) := by
                  rw [← HV.out, Nat.min_eq_left (by omega), ← ht]
                have := O3.out.put (4 * i + k) (bf (joined S) (4 * i + k)) (by omega)
                rw [HJ.out] at this
                refine ⟨k + 1, by omega, by go_num, ?_, F3.out.other _ (by simp; omega), H3.out.other _ (by simp; omega), B3.out.setCell (p := ⟨O, m, none⟩) (by simp; omega) _⟩
                rw [hp, ← hm]
                exact this
              case measure => simp [intOf]; omega
            · obtain rfl : k = 4 := by omega
              have O3 := Lib.hid hO
              have F3 := Lib.hid hF
              have H3 := Lib.hid hH
              have B3 := Lib.hid hB
              clear hO hF hH hB
              go_wp2_with fail
              go_roundw
              case rel => exact ⟨i + 1, by omega, by go_num, O3.out, F3.out, H3.out, B3.out⟩
              case measure => simp [intOf]; omega
        · rw [show 4 * i = 32 by omega, jx_all] at O2
          go_wp2_with (first | (refine load_hash O2.out rfl rfl rfl ?_) | (refine store_hash H2.out rfl rfl rfl rfl ?_))
          exact bodyPost_ret (v := .agg (nums .u8 32 (bf (joined S)))) (results_hash rfl _ _ w.heap.size _ rfl H2.out.row) rfl ⟨by rw [HSH.out], below_row B2.out (Nat.le_refl _) _⟩
end Go.Proofs.YtkhhejkemkldgaaDoor
