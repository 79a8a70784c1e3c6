/- The statement BlockdevNames, walked. -/
import Derived.Test.YteopbeafhhfdoaaLNot
import Derived.Test.YteopbeafhhfdoaaLDownM
import Derived.Test.YteopbeafhhfdoaaLAlive
set_option linter.unusedVariables false
set_option linter.unusedSimpArgs false
namespace Go.Proofs.Yteopbeafhhfdoaa.Nm
open Go.RowKit
abbrev cL (c : Int) : List Int := (List.range 128).map (fun _ => c)
def m0 : Dv := Dv.new 4
def m1 : Dv := m0.restart (leftN [] 0 0)
def m2 : Dv := m1.write 4 (cL 97)
def m3 : Dv := m2.write 0 ((cL 97).drop 1)
def m4 : Dv := m3.plan (-1)
def m5 : Dv := m4.plan 2
def m6 : Dv := m5.write 0 (cL 97)
def m7 : Dv := m6.write 0 (cL 98)
def m8 : Dv := m7.flush
def m9 : Dv := m8.plan 1
def m10 : Dv := m9.write 9 []
def m11 : Dv := m10.restart (leftN [2] (-1) 0)
theorem a0 : restartE m0 = 2 := by decide +kernel
theorem a1 : writeE m1 4 (cL 97).length = 121 := by decide +kernel
theorem a2 : writeE m2 0 ((cL 97).drop 1).length = 2 := by decide +kernel
theorem a3 : planE m3 (-1) = 2 := by decide +kernel
theorem a4 : planE m4 2 = 0 := by decide +kernel
theorem a5 : writeE m5 0 (cL 97).length = 0 := by decide +kernel
theorem a6 : writeE m6 0 (cL 98).length = 120 := by decide +kernel
theorem a7d : m7.down = true := by decide +kernel
theorem a7r : accE m7 0 = 120 := by decide +kernel
theorem a7 : flushE m7 = 120 := by decide +kernel
theorem a8 : planE m8 1 = 120 := by decide +kernel
theorem a9 : writeE m9 9 ([] : List Int).length = 120 := by decide +kernel
theorem a10 : restartE m10 = 0 := by decide +kernel
theorem a11 : decide (accE m11 0 = 0 ∧ m11.read 0 = cL 98) = true := by decide +kernel
theorem a11c : m11.calls = 2 := by decide +kernel
theorem k1 : m1.calls < 4611686018427387904 := by decide +kernel
theorem k2 : m2.calls < 4611686018427387904 := by decide +kernel
theorem k5 : m5.calls < 4611686018427387904 := by decide +kernel
theorem k6 : m6.calls < 4611686018427387904 := by decide +kernel
theorem k7 : m7.calls < 4611686018427387904 := by decide +kernel
theorem k9 : m9.calls < 4611686018427387904 := by decide +kernel
def iw (d : Dv) : Nat → Dv
  | 0 => d
  | k + 1 => (iw d k).write 3 (cL 99)
theorem iw_form (d : Dv) (hu : d.down = false) (hn : d.num = 0) (hf : d.frm ≤ d.calls) (h3 : HasN d 3) : ∀ k : Nat, d.cache.length + k ≤ 256 → iw d k = { d with cache := d.cache ++ List.replicate k (3, cL 99), calls := d.calls + k }
  | 0, _ => by
    show d = _
    simp
  | k + 1, hk => by
    show (iw d k).write 3 (cL 99) = _
    rw [iw_form d hu hn hf h3 k (by omega)]
    have hacc : accE ({ d with cache := d.cache ++ List.replicate k (3, cL 99), calls := d.calls + k } : Dv) 3 = 0 := by
      unfold accE
      rw [if_neg (by rw [hu]; simp)]
      exact if_pos h3
    have hcond : ¬ (accE ({ d with cache := d.cache ++ List.replicate k (3, cL 99), calls := d.calls + k } : Dv) 3 ≠ 0 ∨ (cL 99).length ≠ 128 ∨ (d.cache ++ List.replicate k ((3 : Int), cL 99)).length = 256) := by
      rintro (q | q | q)
      · exact q hacc
      · exact q (by simp [cL])
      · rw [List.length_append, List.length_replicate] at q; omega
    unfold Dv.write
    rw [if_neg hcond]
    unfold Dv.counted
    have hd : decide (d.calls + k + 1 - d.frm = d.num) = false := decide_eq_false (by omega)
    simp only [hd, List.append_assoc]
    rw [hu, show List.replicate k ((3 : Int), cL 99) ++ [(3, cL 99)] = List.replicate (k + 1) (3, cL 99) from (List.replicate_succ' ..).symm]
    congr 1
    push_cast
    omega
def t0 : Dv := { m11 with cache := List.replicate 256 (3, cL 99), calls := 258 }
def t1 : Dv := t0.write 3 (cL 100)
def t2 : Dv := t1.flush
def t3 : Dv := t2.write 3 (cL 100)
def t4 : Dv := t3.plan 1
def t5 : Dv := t4.flush
theorem w256 : iw m11 256 = t0 := by
  rw [iw_form m11 (by decide +kernel) (by decide +kernel) (by decide +kernel) (by decide +kernel) 256 (by decide +kernel)]
  have hc : m11.cache = [] := by decide +kernel
  unfold t0
  rw [hc, a11c]; rfl
theorem b0 : writeE t0 3 (cL 100).length = 122 := by decide +kernel
theorem b1 : flushE t1 = 0 := by decide +kernel
theorem b2 : writeE t2 3 (cL 100).length = 0 := by decide +kernel
theorem b3 : planE t3 1 = 0 := by decide +kernel
theorem b4 : flushE t4 = 120 := by decide +kernel
theorem b5 : HasN t5 3 := by decide +kernel
theorem b6 : (t5.at 3).getD 0 0 = 99 ∧ (t5.at 3).length = 128 := by decide +kernel
theorem l0 : t0.calls < 4611686018427387904 := by decide +kernel
theorem l1 : t1.calls < 4611686018427387904 := by decide +kernel
theorem l2 : t2.calls < 4611686018427387904 := by decide +kernel
theorem l4 : t4.calls < 4611686018427387904 := by decide +kernel
theorem iw_calls (d : Dv) : ∀ k : Nat, (iw d k).calls ≤ d.calls + k
  | 0 => by show d.calls ≤ _; omega
  | k + 1 => by
    have h := iw_calls d k
    show ((iw d k).write 3 (cL 99)).calls ≤ _
    rcases write_is (iw d k) 3 (cL 99) with ⟨e, _⟩ | ⟨_, _, _, e⟩
    · rw [e]; omega
    · rw [e]
      show (iw d k).calls + 1 ≤ _
      omega
set_option maxRecDepth 100000 in
set_option maxHeartbeats 8000000 in
theorem namesW (w : World) : Calls Try.prog 4 #[] w fun e w' => e = .returned (.bool true) ∧ Below w.heap.size w w' := by
  go_enter Try.func4, Try.ntmps4
  go_wp2_with fail
  refine (new_yes 4 (by decide) (by decide) _).mono ?_
  rintro e W0 ⟨p0, rfl, hd, hf, hB⟩
  have S0 := Lib.hid (DevSt.new hd hf hB)
  obtain ⟨D, hD⟩ : ∃ D, p0.D = D := ⟨_, rfl⟩
  rw [hD] at S0 ⊢
  clear hd hf hB hD
  rw [show Dv.new 4 = m0 from rfl] at S0
  go_wp2_with (fail)
  have hC := restart_any _ _ _ S0.out.dev none 0 0 [] 0 0 (bys8_nil _ _ _ _) (fun k e => by cases e)
  rw [S0.out.D] at hC
  refine hC.mono ?_
  clear hC
  rintro e W1 ⟨rfl, p1, hd, hS⟩
  have S1 := Lib.hid (S0.out.step hd hS)
  clear hd hS S0
  rw [a0]
  rw [show m0.restart (leftN [] 0 0) = m1 from rfl] at S1
  go_wp2_with (fail)
  refine (full_any 97 _).mono ?_
  rintro e W2 ⟨g1, hg, hlt, rfl, hP, hB⟩
  have hrow := RowF.new S1.out.dev hg hlt hP
  have HG1 := Lib.hid (Nat.le_trans S1.out.le hg)
  clear hg hlt hP
  have S2 := Lib.hid (S1.out.next hB)
  clear hB S1
  have G1 := Lib.hid hrow
  clear hrow
  go_wp2_with (fail)
  have hC := write_any _ _ _ S2.out.dev k1 4 (some ⟨g1, 0, none⟩) 128 128 _ (G1.out.bys (by intro j hj; first | (refine ⟨?_, ?_⟩ <;> decide) | (split <;> (refine ⟨?_, ?_⟩ <;> decide)) | (split <;> (first | (refine ⟨?_, ?_⟩ <;> decide) | (split <;> (refine ⟨?_, ?_⟩ <;> decide))))) 128) (G1.out.apart 128 128)
  rw [S2.out.D] at hC
  refine hC.mono ?_
  clear hC
  rintro e W3 ⟨rfl, p2, hd, hS⟩
  have G1 := Lib.hid (G1.out.step hS)
  have S3 := Lib.hid (S2.out.step hd hS)
  clear hd hS S2
  rw [a1]
  rw [show m1.write 4 (cL 97) = m2 from rfl] at S3
  clear G1 HG1
  go_wp2_with (fail)
  refine (full_any 97 _).mono ?_
  rintro e W4 ⟨g2, hg, hlt, rfl, hP, hB⟩
  have hrow := RowF.new S3.out.dev hg hlt hP
  have HG2 := Lib.hid (Nat.le_trans S3.out.le hg)
  clear hg hlt hP
  have S4 := Lib.hid (S3.out.next hB)
  clear hB S3
  have G2 := Lib.hid hrow
  clear hrow
  go_wp2_with (fail)
  have hby : Bys8 W4.heap.size W4 (.slice (some ⟨g2, 1, none⟩) 127 127) ((cL 97).drop 1) := (G2.out.bys (f := fun _ => 97) (by intro j hj; refine ⟨?_, ?_⟩ <;> decide) 128).drop 1 (by decide) 127
  have hC := write_any _ _ _ S4.out.dev k2 0 (some ⟨g2, 1, none⟩) 127 127 _ hby (fun k e => by cases e; exact G2.out.1.2)
  rw [S4.out.D] at hC
  refine hC.mono ?_
  clear hC
  rintro e W5 ⟨rfl, p3, hd, hS⟩
  have G2 := Lib.hid (G2.out.step hS)
  have S5 := Lib.hid (S4.out.step hd hS)
  clear hd hS S4
  clear hby
  rw [a2]
  rw [show m2.write 0 ((cL 97).drop 1) = m3 from rfl] at S5
  clear G2 HG2
  go_wp2_with (fail)
  have hC := plan_any _ _ _ S5.out.dev (-1) (by decide)
  rw [S5.out.D] at hC
  refine hC.mono ?_
  clear hC
  rintro e W6 ⟨rfl, p4, hd, hS⟩
  have S6 := Lib.hid (S5.out.step hd hS)
  clear hd hS S5
  rw [a3]
  rw [show m3.plan (-1) = m4 from rfl] at S6
  go_wp2_with (fail)
  have hC := plan_any _ _ _ S6.out.dev 2 (by decide)
  rw [S6.out.D] at hC
  refine hC.mono ?_
  clear hC
  rintro e W7 ⟨rfl, p5, hd, hS⟩
  have S7 := Lib.hid (S6.out.step hd hS)
  clear hd hS S6
  rw [a4]
  rw [show m4.plan 2 = m5 from rfl] at S7
  go_wp2_with (fail)
  refine (full_any 97 _).mono ?_
  rintro e W8 ⟨g3, hg, hlt, rfl, hP, hB⟩
  have hrow := RowF.new S7.out.dev hg hlt hP
  have HG3 := Lib.hid (Nat.le_trans S7.out.le hg)
  clear hg hlt hP
  have S8 := Lib.hid (S7.out.next hB)
  clear hB S7
  have G3 := Lib.hid hrow
  clear hrow
  go_wp2_with (fail)
  have hC := write_any _ _ _ S8.out.dev k5 0 (some ⟨g3, 0, none⟩) 128 128 _ (G3.out.bys (by intro j hj; first | (refine ⟨?_, ?_⟩ <;> decide) | (split <;> (refine ⟨?_, ?_⟩ <;> decide)) | (split <;> (first | (refine ⟨?_, ?_⟩ <;> decide) | (split <;> (refine ⟨?_, ?_⟩ <;> decide))))) 128) (G3.out.apart 128 128)
  rw [S8.out.D] at hC
  refine hC.mono ?_
  clear hC
  rintro e W9 ⟨rfl, p6, hd, hS⟩
  have G3 := Lib.hid (G3.out.step hS)
  have S9 := Lib.hid (S8.out.step hd hS)
  clear hd hS S8
  rw [a5]
  rw [show m5.write 0 (cL 97) = m6 from rfl] at S9
  clear G3 HG3
  go_wp2_with (fail)
  refine (full_any 98 _).mono ?_
  rintro e W10 ⟨g4, hg, hlt, rfl, hP, hB⟩
  have hrow := RowF.new S9.out.dev hg hlt hP
  have HG4 := Lib.hid (Nat.le_trans S9.out.le hg)
  clear hg hlt hP
  have S10 := Lib.hid (S9.out.next hB)
  clear hB S9
  have G4 := Lib.hid hrow
  clear hrow
  go_wp2_with (fail)
  have hC := write_any _ _ _ S10.out.dev k6 0 (some ⟨g4, 0, none⟩) 128 128 _ (G4.out.bys (by intro j hj; first | (refine ⟨?_, ?_⟩ <;> decide) | (split <;> (refine ⟨?_, ?_⟩ <;> decide)) | (split <;> (first | (refine ⟨?_, ?_⟩ <;> decide) | (split <;> (refine ⟨?_, ?_⟩ <;> decide))))) 128) (G4.out.apart 128 128)
  rw [S10.out.D] at hC
  refine hC.mono ?_
  clear hC
  rintro e W11 ⟨rfl, p7, hd, hS⟩
  have G4 := Lib.hid (G4.out.step hS)
  have S11 := Lib.hid (S10.out.step hd hS)
  clear hd hS S10
  rw [a6]
  rw [show m6.write 0 (cL 98) = m7 from rfl] at S11
  clear G4 HG4
  have hC := down_any _ _ _ S11.out.dev
  rw [S11.out.D, a7d] at hC
  have HD := Lib.hid hC
  clear hC
  have hC := read_no _ _ _ S11.out.dev 0 (by rw [a7r]; decide)
  rw [S11.out.D, a7r] at hC
  have HRD := Lib.hid hC
  clear hC
  go_wp2_with (first | (go_at_call 12; refine HD.out.mono ?_; rintro e w' ⟨rfl, rfl⟩) | (go_at_call 22; refine HRD.out.mono ?_; rintro e w' ⟨rfl, rfl⟩) | fail)
  clear HD HRD
  have hC := flush_any _ _ _ S11.out.dev k7
  rw [S11.out.D] at hC
  refine hC.mono ?_
  clear hC
  rintro e W12 ⟨rfl, p8, hd, hS⟩
  have S12 := Lib.hid (S11.out.step hd hS)
  clear hd hS S11
  rw [a7]
  rw [show m7.flush = m8 from rfl] at S12
  go_wp2_with (fail)
  have hC := plan_any _ _ _ S12.out.dev 1 (by decide)
  rw [S12.out.D] at hC
  refine hC.mono ?_
  clear hC
  rintro e W13 ⟨rfl, p9, hd, hS⟩
  have S13 := Lib.hid (S12.out.step hd hS)
  clear hd hS S12
  rw [a8]
  rw [show m8.plan 1 = m9 from rfl] at S13
  go_wp2_with (fail)
  have hC := write_any _ _ _ S13.out.dev k9 9 none 0 0 [] (bys8_nil _ _ _ _) (fun k e => by cases e)
  rw [S13.out.D] at hC
  refine hC.mono ?_
  clear hC
  rintro e W14 ⟨rfl, p10, hd, hS⟩
  have S14 := Lib.hid (S13.out.step hd hS)
  clear hd hS S13
  rw [a9]
  rw [show m9.write 9 [] = m10 from rfl] at S14
  go_wp2_with (fail)
  have hrow := RowF.lit S14.out.dev 2
  obtain ⟨g5, hnm⟩ : ∃ g, g = W14.heap.size := ⟨_, rfl⟩
  rw [← hnm] at hrow ⊢
  have hB := (Below.refl _ W14).alloc (Nat.le_refl _) (.cells #[.int .u8 2] 5)
  obtain ⟨W15, hX⟩ : ∃ X, W14.alloc (.cells #[.int .u8 2] 5) = X := ⟨_, rfl⟩
  rw [hX] at hrow hB ⊢
  clear hnm hX
  have S15 := Lib.hid (S14.out.next hB)
  clear hB S14
  have G5 := Lib.hid hrow
  clear hrow
  have hC := restart_any _ _ _ S15.out.dev (some ⟨g5, 0, none⟩) 1 1 [2] (-1) 0 (G5.out.bys (by intro j hj; refine ⟨?_, ?_⟩ <;> decide) 1) (G5.out.apart 1 1)
  rw [S15.out.D] at hC
  refine hC.mono ?_
  clear hC
  rintro e W16 ⟨rfl, p11, hd, hS⟩
  have G5 := Lib.hid (G5.out.step hS)
  have S16 := Lib.hid (S15.out.step hd hS)
  clear hd hS S15
  rw [a10]
  rw [show m10.restart (leftN [2] (-1) 0) = m11 from rfl] at S16
  clear G5
  go_wp2_with (fail)
  refine (full_any 98 _).mono ?_
  rintro e W17 ⟨g6, hg, hlt, rfl, hP, hB⟩
  have hrow := RowF.new S16.out.dev hg hlt hP
  have HG6 := Lib.hid (Nat.le_trans S16.out.le hg)
  clear hg hlt hP
  have S17 := Lib.hid (S16.out.next hB)
  clear hB S16
  have G6 := Lib.hid hrow
  clear hrow
  go_wp2_with (fail)
  have hC := reads_any _ _ _ S17.out.dev 0 _ 128 128 _ (G6.out.bys (f := fun _ => 98) (by intro j hj; refine ⟨?_, ?_⟩ <;> decide) 128)
  rw [S17.out.D, a11] at hC
  refine hC.mono ?_
  clear hC
  rintro e W18 ⟨rfl, hB⟩
  have G6 := Lib.hid (G6.out.next hB)
  have S18 := Lib.hid (S17.out.next hB)
  clear hB S17
  clear G6 HG6
  have hC := calls_any _ _ _ S18.out.dev
  rw [S18.out.D, a11c] at hC
  have HC := Lib.hid hC
  clear hC
  go_wp2_with (first | (go_at_call 13; refine HC.out.mono ?_; rintro e w' ⟨rfl, rfl⟩) | fail)
  clear HC
  refine wp_loop (fun a' w' => ∃ l : List Value, a' = ⟨l.toArray, []⟩ ∧ l.length = 272 ∧ (l.getD 1 undef = ptr D ∧ l.getD 17 undef = .bool true) ∧ ∃ i : Value, l.getD 135 undef = i ∧ (∃ (k : Nat) (q : Pl), k ≤ 256 ∧ i = .int .i64 k ∧ DevSt w.heap.size w D w' q (iw m11 k))) (fun a' w' => 256 - (intOf (a'.tmps.getD 135 undef)).toNat) ?_ ?_
  · refine ⟨_, rfl, rfl, ⟨rfl, rfl⟩, _, rfl, ?_⟩
    exact ⟨0, _, Nat.zero_le _, rfl, S18.out⟩
  · rintro _ wr ⟨l, rfl, hl, ⟨g1, g17⟩, i, v135, k, q, hk, hki, hS⟩
    obtain ⟨u, hu, hv⟩ : ∃ u : Nat → Value, (∀ i, l.getD i undef = u i) ∧ l = (List.range 272).map u := ⟨_, fun _ => rfl, frame_of hl⟩
    rw [hu] at g1 g17 v135
    rw [hv, show (List.range 272).map u = [u 0, u 1, u 2, u 3, u 4, u 5, u 6, u 7, u 8, u 9, u 10, u 11, u 12, u 13, u 14, u 15, u 16, u 17, u 18, u 19, u 20, u 21, u 22, u 23, u 24, u 25, u 26, u 27, u 28, u 29, u 30, u 31, u 32, u 33, u 34, u 35, u 36, u 37, u 38, u 39, u 40, u 41, u 42, u 43, u 44, u 45, u 46, u 47, u 48, u 49, u 50, u 51, u 52, u 53, u 54, u 55, u 56, u 57, u 58, u 59, u 60, u 61, u 62, u 63, u 64, u 65, u 66, u 67, u 68, u 69, u 70, u 71, u 72, u 73, u 74, u 75, u 76, u 77, u 78, u 79, u 80, u 81, u 82, u 83, u 84, u 85, u 86, u 87, u 88, u 89, u 90, u 91, u 92, u 93, u 94, u 95, u 96, u 97, u 98, u 99, u 100, u 101, u 102, u 103, u 104, u 105, u 106, u 107, u 108, u 109, u 110, u 111, u 112, u 113, u 114, u 115, u 116, u 117, u 118, u 119, u 120, u 121, u 122, u 123, u 124, u 125, u 126, u 127, u 128, u 129, u 130, u 131, u 132, u 133, u 134, u 135, u 136, u 137, u 138, u 139, u 140, u 141, u 142, u 143, u 144, u 145, u 146, u 147, u 148, u 149, u 150, u 151, u 152, u 153, u 154, u 155, u 156, u 157, u 158, u 159, u 160, u 161, u 162, u 163, u 164, u 165, u 166, u 167, u 168, u 169, u 170, u 171, u 172, u 173, u 174, u 175, u 176, u 177, u 178, u 179, u 180, u 181, u 182, u 183, u 184, u 185, u 186, u 187, u 188, u 189, u 190, u 191, u 192, u 193, u 194, u 195, u 196, u 197, u 198, u 199, u 200, u 201, u 202, u 203, u 204, u 205, u 206, u 207, u 208, u 209, u 210, u 211, u 212, u 213, u 214, u 215, u 216, u 217, u 218, u 219, u 220, u 221, u 222, u 223, u 224, u 225, u 226, u 227, u 228, u 229, u 230, u 231, u 232, u 233, u 234, u 235, u 236, u 237, u 238, u 239, u 240, u 241, u 242, u 243, u 244, u 245, u 246, u 247, u 248, u 249, u 250, u 251, u 252, u 253, u 254, u 255, u 256, u 257, u 258, u 259, u 260, u 261, u 262, u 263, u 264, u 265, u 266, u 267, u 268, u 269, u 270, u 271] from rfl]
    rw [g1, g17, v135]
    clear hu hv hl g1 g17 v135 l
    rw [hki]
    clear hki i S18
    by_cases hlt : k < 256
    case pos =>
      have i1 : (k : Int) < 256 := by omega
      have wk : wrap64 ((k : Int) + 1) = ((k + 1 : Nat) : Int) := by unfold wrap64; omega
      have CA := Lib.hid (show (iw m11 k).calls < 4611686018427387904 by have := iw_calls m11 k; rw [a11c] at this; omega)
      have S := Lib.hid hS
      have HK := Lib.hid hlt
      clear hS hlt hk
      go_wp2_with fail
      refine (full_any 99 _).mono ?_
      rintro e Z1 ⟨g, hg, hlt, rfl, hP, hB⟩
      have hrow := RowF.new S.out.dev hg hlt hP
      have S1 := Lib.hid (S.out.next hB)
      have hW := write_any q _ Z1 S1.out.dev CA.out 3 (some ⟨g, 0, none⟩) 128 128 _ (hrow.bys (by intro j hj; refine ⟨?_, ?_⟩ <;> decide) 128) (hrow.apart 128 128)
      rw [S1.out.D] at hW
      have HW := Lib.hid hW
      clear hg hlt hP hB hrow hW S
      go_wp2_with fail
      refine HW.out.mono ?_
      rintro e Z2 ⟨rfl, q2, hd, hS⟩
      have S2 := Lib.hid (show DevSt w.heap.size w D Z2 q2 (iw m11 (k + 1)) from S1.out.step hd hS)
      clear hd hS HW S1
      go_wp2
      refine ⟨⟨_, rfl, rfl, ⟨rfl, rfl⟩, _, rfl, ?rel⟩, ?measure⟩
      case rel => exact ⟨k + 1, q2, HK.out, by first | rfl | (show Value.int .i64 (wrap64 ((k : Int) + 1)) = _; rw [wk]), S2.out⟩
      case measure =>
        have hk2 := HK.out
        first
          | (show 256 - (intOf (.int .i64 (wrap64 ((k : Int) + 1)))).toNat < 256 - (intOf (.int .i64 (k : Int))).toNat; rw [wk])
          | (show 256 - (intOf (.int .i64 ((k + 1 : Nat) : Int))).toNat < 256 - (intOf (.int .i64 (k : Int))).toNat)
          | (show 256 - (intOf (.int .i64 ((k : Int) + 1))).toNat < 256 - (intOf (.int .i64 (k : Int))).toNat)
        first
          | (show 256 - ((k + 1 : Nat) : Int).toNat < 256 - ((k : Nat) : Int).toNat; omega)
          | (show 256 - ((k : Int) + 1).toNat < 256 - ((k : Nat) : Int).toNat; omega)
    have hke : k = 256 := by omega
    subst hke
    rw [w256] at hS
    obtain ⟨W19, hWk⟩ : ∃ X, X = wr := ⟨_, rfl⟩
    rw [← hWk] at hS ⊢
    have S19 := Lib.hid hS
    clear hS hWk hlt hk
    go_wp2_with (fail)
    refine (full_any 100 _).mono ?_
    rintro e W20 ⟨h1, hg, hlt, rfl, hP, hB⟩
    have hrow := RowF.new S19.out.dev hg hlt hP
    have HH1 := Lib.hid (Nat.le_trans S19.out.le hg)
    clear hg hlt hP
    have S20 := Lib.hid (S19.out.next hB)
    clear hB S19
    have H1 := Lib.hid hrow
    clear hrow
    go_wp2_with (fail)
    have hC := write_any _ _ _ S20.out.dev l0 3 (some ⟨h1, 0, none⟩) 128 128 _ (H1.out.bys (by intro j hj; first | (refine ⟨?_, ?_⟩ <;> decide) | (split <;> (refine ⟨?_, ?_⟩ <;> decide)) | (split <;> (first | (refine ⟨?_, ?_⟩ <;> decide) | (split <;> (refine ⟨?_, ?_⟩ <;> decide))))) 128) (H1.out.apart 128 128)
    rw [S20.out.D] at hC
    refine hC.mono ?_
    clear hC
    rintro e W21 ⟨rfl, p13, hd, hS⟩
    have H1 := Lib.hid (H1.out.step hS)
    have S21 := Lib.hid (S20.out.step hd hS)
    clear hd hS S20
    rw [b0]
    rw [show t0.write 3 (cL 100) = t1 from rfl] at S21
    clear H1 HH1
    go_wp2_with (fail)
    have hC := flush_any _ _ _ S21.out.dev l1
    rw [S21.out.D] at hC
    refine hC.mono ?_
    clear hC
    rintro e W22 ⟨rfl, p14, hd, hS⟩
    have S22 := Lib.hid (S21.out.step hd hS)
    clear hd hS S21
    rw [b1]
    rw [show t1.flush = t2 from rfl] at S22
    go_wp2_with (fail)
    refine (full_any 100 _).mono ?_
    rintro e W23 ⟨h2, hg, hlt, rfl, hP, hB⟩
    have hrow := RowF.new S22.out.dev hg hlt hP
    have HH2 := Lib.hid (Nat.le_trans S22.out.le hg)
    clear hg hlt hP
    have S23 := Lib.hid (S22.out.next hB)
    clear hB S22
    have H2 := Lib.hid hrow
    clear hrow
    go_wp2_with (fail)
    have hC := write_any _ _ _ S23.out.dev l2 3 (some ⟨h2, 0, none⟩) 128 128 _ (H2.out.bys (by intro j hj; first | (refine ⟨?_, ?_⟩ <;> decide) | (split <;> (refine ⟨?_, ?_⟩ <;> decide)) | (split <;> (first | (refine ⟨?_, ?_⟩ <;> decide) | (split <;> (refine ⟨?_, ?_⟩ <;> decide))))) 128) (H2.out.apart 128 128)
    rw [S23.out.D] at hC
    refine hC.mono ?_
    clear hC
    rintro e W24 ⟨rfl, p15, hd, hS⟩
    have H2 := Lib.hid (H2.out.step hS)
    have S24 := Lib.hid (S23.out.step hd hS)
    clear hd hS S23
    rw [b2]
    rw [show t2.write 3 (cL 100) = t3 from rfl] at S24
    clear H2 HH2
    go_wp2_with (fail)
    have hC := plan_any _ _ _ S24.out.dev 1 (by decide)
    rw [S24.out.D] at hC
    refine hC.mono ?_
    clear hC
    rintro e W25 ⟨rfl, p16, hd, hS⟩
    have S25 := Lib.hid (S24.out.step hd hS)
    clear hd hS S24
    rw [b3]
    rw [show t3.plan 1 = t4 from rfl] at S25
    go_wp2_with (fail)
    have hC := flush_any _ _ _ S25.out.dev l4
    rw [S25.out.D] at hC
    refine hC.mono ?_
    clear hC
    rintro e W26 ⟨rfl, p17, hd, hS⟩
    have S26 := Lib.hid (S25.out.step hd hS)
    clear hd hS S25
    rw [b4]
    rw [show t4.flush = t5 from rfl] at S26
    go_wp2_with (fail)
    have hC := safe_yes _ _ _ S26.out.dev 3 b5
    rw [S26.out.D] at hC
    refine hC.mono ?_
    clear hC
    rintro e W27 ⟨gs, hg, rfl, hat, hB⟩
    have q0 : W27.cell? ⟨gs, 0, none⟩ = some (.int .u8 ((t5.at 3).getD 0 0)) := (row_of_at hat b6.2 0 (by decide)).1
    rw [b6.1] at q0
    clear hat hg
    have S27 := Lib.hid (S26.out.next hB)
    clear hB S26
    have HB0 := Lib.hid S27.out.below
    have n1 := Lib.hid (fun W => new_no 0 (by decide) W)
    have n2 := Lib.hid (fun W => new_no 65537 (by decide) W)
    go_wp2_with (first | (go_at_call 8; with_reducible refine (n1.out _).mono ?_; rintro e w' ⟨rfl, rfl⟩) | (go_at_call 8; with_reducible refine (n2.out _).mono ?_; rintro e w' ⟨rfl, rfl⟩) | fail)
    clear n1 n2 q0
    have hz := At.new 62 W27 zeroC
    obtain ⟨V0, hV⟩ : ∃ V, V = W27.alloc (.cells zeroC 62) := ⟨_, rfl⟩
    have Z0 := Lib.hid (show NotMade V0 (.pointer none) ∧ NotMade V0 (.pointer (some ⟨W27.heap.size, 0, none⟩)) ∧ Below w.heap.size w V0 from ⟨.inl rfl, .inr ⟨_, rfl, by rw [hV]; exact hz⟩, by rw [hV]; exact HB0.out.alloc HB0.out.size _⟩)
    rw [← hV]
    have HA := Lib.hid (Al.alive_any V0)
    have NR := Lib.hid (read_not _ 0 V0 Z0.out.1)
    have NS := Lib.hid (safe_not _ 0 V0 Z0.out.2.1)
    clear hz hV HB0 S27
    go_wp2_with (first | (go_at_call 22; refine NR.out.mono ?_; rintro e w' ⟨rfl, rfl⟩) | (go_at_call 15; refine NS.out.mono ?_; rintro e w' ⟨rfl, rfl⟩) | fail)
    clear NR NS
    refine HA.out.mono ?_
    rintro e V1 ⟨rfl, hB⟩
    have Z1 := Lib.hid (And.intro (Z0.out.1.next hB) (And.intro (Z0.out.2.1.next hB) (Z0.out.2.2.trans (hB.mono Z0.out.2.2.size))))
    clear hB HA Z0
    have NW := Lib.hid (write_not _ 0 none 0 0 V1 Z1.out.1)
    have NF := Lib.hid (flush_not _ V1 Z1.out.2.1)
    have NP := Lib.hid (plan_not _ 0 V1 Z1.out.1)
    have NU := Lib.hid (pull_not _ V1 Z1.out.2.1)
    go_wp2_with (first | (go_at_call 19; refine NW.out.mono ?_; rintro e w' ⟨rfl, rfl⟩) | (go_at_call 23; refine NF.out.mono ?_; rintro e w' ⟨rfl, rfl⟩) | (go_at_call 21; refine NP.out.mono ?_; rintro e w' ⟨rfl, rfl⟩) | (go_at_call 26; refine NU.out.mono ?_; rintro e w' ⟨rfl, rfl⟩) | fail)
    refine (restart_not _ none 0 0 0 0 V1 Z1.out.1).mono ?_
    rintro e V2 ⟨rfl, hB⟩
    have Z2 := Lib.hid (And.intro (Z1.out.1.next hB) (And.intro (Z1.out.2.1.next hB) (Z1.out.2.2.trans (hB.mono Z1.out.2.2.size))))
    clear hB Z1 NW NF NP NU
    have ND := Lib.hid (down_not _ V2 Z2.out.1)
    have NC := Lib.hid (calls_not _ V2 Z2.out.2.1)
    have NL := Lib.hid (len_not _ V2 Z2.out.1)
    have NK := Lib.hid (cached_not _ V2 Z2.out.2.1)
    have NY := Lib.hid (copy_not _ V2 Z2.out.1)
    go_wp2_with (first | (go_at_call 12; refine ND.out.mono ?_; rintro e w' ⟨rfl, rfl⟩) | (go_at_call 13; refine NC.out.mono ?_; rintro e w' ⟨rfl, rfl⟩) | (go_at_call 17; refine NL.out.mono ?_; rintro e w' ⟨rfl, rfl⟩) | (go_at_call 14; refine NK.out.mono ?_; rintro e w' ⟨rfl, rfl⟩) | (go_at_call 10; refine NY.out.mono ?_; rintro e w' ⟨rfl, rfl⟩) | fail)
    go_ret
    exact ⟨rfl, Z2.out.2.2⟩
end Go.Proofs.Yteopbeafhhfdoaa.Nm
