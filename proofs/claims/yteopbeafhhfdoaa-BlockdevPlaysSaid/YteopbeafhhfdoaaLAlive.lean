/- The chapter's first examples. -/
import Derived.Test.YteopbeafhhfdoaaLSt
set_option linter.unusedVariables false
set_option linter.unusedSimpArgs false
namespace Go.Proofs.Yteopbeafhhfdoaa.Al
open Go.RowKit
abbrev cL (c : Int) : List Int := (List.range 128).map (fun _ => c)
def s0 : Dv := Dv.new 4
def s1 : Dv := s0.write 1 (cL 97)
def s2 : Dv := s1.write 1 (cL 98)
def s3 : Dv := s2.write 2 (cL 97)
def s4 : Dv := s3.pull
def s5 : Dv := s4.restart (leftN [5] 1 2)
theorem e1 : writeE s0 1 (cL 97).length = 0 := by decide +kernel
theorem e2 : writeE s1 1 (cL 98).length = 0 := by decide +kernel
theorem e3 : writeE s2 2 (cL 97).length = 0 := by decide +kernel
theorem e4 : restartE s4 = 0 := by decide +kernel
theorem k0 : s0.calls < 4611686018427387904 := by decide +kernel
theorem k1 : s1.calls < 4611686018427387904 := by decide +kernel
theorem k2 : s2.calls < 4611686018427387904 := by decide +kernel
abbrev mixF : Nat → Int := fun j => if j = 1 then 98 else if j = 0 then 98 else 97
theorem r1 : decide (accE s5 1 = 0 ∧ s5.read 1 = (List.range 128).map mixF) = true := by decide +kernel
theorem r2 : decide (accE s5 2 = 0 ∧ s5.read 2 = cL 97) = true := by decide +kernel
theorem r0 : decide (accE s5 0 = 0 ∧ s5.read 0 = cL 0) = true := by decide +kernel
theorem c3 : s3.cache.map (·.1) = [1, 1, 2] := by decide +kernel
theorem mix_in (j : Nat) : 0 ≤ mixF j ∧ mixF j < 256 := by unfold mixF; split <;> (try split) <;> decide
set_option maxRecDepth 100000 in
set_option maxHeartbeats 2000000 in
theorem alive_any (w : World) : Calls Try.prog 25 #[] w fun e w' => e = .returned (.bool true) ∧ Below w.heap.size w w' := by
  go_enter Try.func25, Try.ntmps25
  go_wp2_with fail
  refine (new_yes 4 (by decide) (by decide) _).mono ?_
  rintro e W0 ⟨p0, rfl, hd, hf, hB⟩
  have S0 := Lib.hid (DevSt.new hd hf hB)
  obtain ⟨D, hD⟩ : ∃ D, p0.D = D := ⟨_, rfl⟩
  rw [hD] at S0 ⊢
  clear hd hf hB hD
  rw [show Dv.new 4 = s0 from rfl] at S0
  go_wp2_with (fail)
  refine (full_any 97 _).mono ?_
  rintro e W1 ⟨g1, hg, hlt, rfl, hP, hB⟩
  have hrow := RowF.new S0.out.dev hg hlt hP
  have HG1 := Lib.hid (Nat.le_trans S0.out.le hg)
  clear hg hlt hP
  have S1 := Lib.hid (S0.out.next hB)
  clear hB S0
  have G1 := Lib.hid hrow
  clear hrow
  go_wp2_with (fail)
  have hC := write_any _ _ _ S1.out.dev k0 1 (some ⟨g1, 0, none⟩) 128 128 _ (G1.out.bys (by intro j hj; first | (refine ⟨?_, ?_⟩ <;> decide) | (split <;> (refine ⟨?_, ?_⟩ <;> decide)) | (split <;> (first | (refine ⟨?_, ?_⟩ <;> decide) | (split <;> (refine ⟨?_, ?_⟩ <;> decide))))) 128) (G1.out.apart 128 128)
  rw [S1.out.D] at hC
  refine hC.mono ?_
  clear hC
  rintro e W2 ⟨rfl, p1, hd, hS⟩
  have G1 := Lib.hid (G1.out.step hS)
  have S2 := Lib.hid (S1.out.step hd hS)
  clear hd hS S1
  rw [e1]
  rw [show s0.write 1 (cL 97) = s1 from rfl] at S2
  clear G1 HG1
  go_wp2_with (fail)
  refine (full_any 98 _).mono ?_
  rintro e W3 ⟨g2, hg, hlt, rfl, hP, hB⟩
  have hrow := RowF.new S2.out.dev hg hlt hP
  have HG2 := Lib.hid (Nat.le_trans S2.out.le hg)
  clear hg hlt hP
  have S3 := Lib.hid (S2.out.next hB)
  clear hB S2
  have G2 := Lib.hid hrow
  clear hrow
  go_wp2_with (fail)
  have hC := write_any _ _ _ S3.out.dev k1 1 (some ⟨g2, 0, none⟩) 128 128 _ (G2.out.bys (by intro j hj; first | (refine ⟨?_, ?_⟩ <;> decide) | (split <;> (refine ⟨?_, ?_⟩ <;> decide)) | (split <;> (first | (refine ⟨?_, ?_⟩ <;> decide) | (split <;> (refine ⟨?_, ?_⟩ <;> decide))))) 128) (G2.out.apart 128 128)
  rw [S3.out.D] at hC
  refine hC.mono ?_
  clear hC
  rintro e W4 ⟨rfl, p2, hd, hS⟩
  have G2 := Lib.hid (G2.out.step hS)
  have S4 := Lib.hid (S3.out.step hd hS)
  clear hd hS S3
  rw [e2]
  rw [show s1.write 1 (cL 98) = s2 from rfl] at S4
  clear G2 HG2
  go_wp2_with (fail)
  refine (full_any 97 _).mono ?_
  rintro e W5 ⟨g3, hg, hlt, rfl, hP, hB⟩
  have hrow := RowF.new S4.out.dev hg hlt hP
  have HG3 := Lib.hid (Nat.le_trans S4.out.le hg)
  clear hg hlt hP
  have S5 := Lib.hid (S4.out.next hB)
  clear hB S4
  have G3 := Lib.hid hrow
  clear hrow
  go_wp2_with (fail)
  have hC := write_any _ _ _ S5.out.dev k2 2 (some ⟨g3, 0, none⟩) 128 128 _ (G3.out.bys (by intro j hj; first | (refine ⟨?_, ?_⟩ <;> decide) | (split <;> (refine ⟨?_, ?_⟩ <;> decide)) | (split <;> (first | (refine ⟨?_, ?_⟩ <;> decide) | (split <;> (refine ⟨?_, ?_⟩ <;> decide))))) 128) (G3.out.apart 128 128)
  rw [S5.out.D] at hC
  refine hC.mono ?_
  clear hC
  rintro e W6 ⟨rfl, p3, hd, hS⟩
  have G3 := Lib.hid (G3.out.step hS)
  have S6 := Lib.hid (S5.out.step hd hS)
  clear hd hS S5
  rw [e3]
  rw [show s2.write 2 (cL 97) = s3 from rfl] at S6
  clear G3 HG3
  go_wp2_with (fail)
  have hC := cached_any _ _ _ S6.out.dev
  rw [S6.out.D] at hC
  refine hC.mono ?_
  clear hC
  rintro e W7 ⟨vl, rfl, hO, hg, hB⟩
  have hrow := IntsF.new S6.out.dev hg (by rw [List.length_map]; exact hO)
  clear hg hO
  have S7 := Lib.hid (S6.out.next hB)
  clear hB S6
  rw [c3] at hrow
  have VL := Lib.hid hrow
  clear hrow
  go_wp2_with (fail)
  have hC := pull_any _ _ _ S7.out.dev
  rw [S7.out.D] at hC
  refine hC.mono ?_
  clear hC
  rintro e W8 ⟨rfl, hd, hS⟩
  have VL := Lib.hid (VL.out.step hS)
  have S8 := Lib.hid (S7.out.step hd hS)
  clear hd hS S7
  rw [show s3.pull = s4 from rfl] at S8
  go_wp2_with (fail)
  have hrow := RowF.lit S8.out.dev 5
  obtain ⟨g4, hnm⟩ : ∃ g, g = W8.heap.size := ⟨_, rfl⟩
  rw [← hnm] at hrow ⊢
  have hB := (Below.refl _ W8).alloc (Nat.le_refl _) (.cells #[.int .u8 5] 5)
  generalize W8.alloc (.cells #[.int .u8 5] 5) = W9 at *
  clear hnm
  have VL := Lib.hid (VL.out.next hB)
  have S9 := Lib.hid (S8.out.next hB)
  clear hB S8
  have G4 := Lib.hid hrow
  clear hrow
  have hC := restart_any _ _ _ S9.out.dev (some ⟨g4, 0, none⟩) 1 1 [5] 1 2 (G4.out.bys (by intro j hj; refine ⟨?_, ?_⟩ <;> decide) 1) (G4.out.apart 1 1)
  rw [S9.out.D] at hC
  refine hC.mono ?_
  clear hC
  rintro e W10 ⟨rfl, p4, hd, hS⟩
  have VL := Lib.hid (VL.out.step hS)
  have G4 := Lib.hid (G4.out.step hS)
  have S10 := Lib.hid (S9.out.step hd hS)
  clear hd hS S9
  rw [e4]
  rw [show s4.restart (leftN [5] 1 2) = s5 from rfl] at S10
  clear G4
  go_wp2_with (fail)
  refine (full_any 97 _).mono ?_
  rintro e W11 ⟨g5, hg, hlt, rfl, hP, hB⟩
  have hrow := RowF.new S10.out.dev hg hlt hP
  have HG5 := Lib.hid (Nat.le_trans S10.out.le hg)
  clear hg hlt hP
  have VL := Lib.hid (VL.out.next hB)
  have S11 := Lib.hid (S10.out.next hB)
  clear hB S10
  have G5 := Lib.hid hrow
  clear hrow
  have q0 := (G5.out.2 0 (by decide)).1
  have q1 := (G5.out.2 1 (by decide)).1
  have f0 := (G5.out.2 0 (by decide)).2
  have f1 := (G5.out.2 1 (by decide)).2
  have hge : w.heap.size ≤ g5 := HG5.out
  have hu : Upd (fun k => k = g5) W11 ((W11.setCell ⟨g5, 0, none⟩ (.int .u8 98)).setCell ⟨g5, 1, none⟩ (.int .u8 98)) := ((Upd.refl (fun k => k = g5) _).setCell (p := ⟨g5, 0, none⟩) (.inl rfl) _).setCell (p := ⟨g5, 1, none⟩) (.inl rfl) _
  have S12 := Lib.hid (S11.out.far G5.out (by decide) hge hu)
  have MX := Lib.hid ((G5.out.set 0 98).set 1 98)
  obtain ⟨gi, ci, hvl, hci⟩ := VL.out.form (by decide)
  subst hvl
  have hne : ∀ j, (( W11.setCell ⟨g5, 0, none⟩ (.int .u8 98)).setCell ⟨g5, 1, none⟩ (.int .u8 98)).cell? ⟨gi, j, none⟩ = W11.cell? ⟨gi, j, none⟩ := fun j => World.cell?_of_block (a := ⟨gi, j, none⟩) (hu.block gi (VL.out.1 gi rfl).1 (fun e => by
      have e' : gi = g5 := e
      have a0 := hci 0 (by decide)
      rw [e', q0] at a0
      simp at a0))
  have i0 := (hne 0).trans (hci 0 (by decide))
  have i1 := (hne 1).trans (hci 1 (by decide))
  have i2 := (hne 2).trans (hci 2 (by decide))
  clear hci hne hu hge S11 G5 VL
  go_wp2_with (fail)
  have hC := reads_any _ _ _ S12.out.dev 1 _ 128 128 _ (show Bys8 _ _ _ ((List.range 128).map mixF) from MX.out.bys (fun j _ => mix_in j) 128)
  rw [S12.out.D, r1] at hC
  refine hC.mono ?_
  clear hC
  rintro e W13 ⟨rfl, hB⟩
  have S13 := Lib.hid (S12.out.next hB)
  clear hB S12
  clear MX i0 i1 i2 q0 q1 f0 f1
  go_wp2_with (fail)
  refine (full_any 97 _).mono ?_
  rintro e W14 ⟨g6, hg, hlt, rfl, hP, hB⟩
  have hrow := RowF.new S13.out.dev hg hlt hP
  have HG6 := Lib.hid (Nat.le_trans S13.out.le hg)
  clear hg hlt hP
  have S14 := Lib.hid (S13.out.next hB)
  clear hB S13
  have G6 := Lib.hid hrow
  clear hrow
  go_wp2_with (fail)
  have hC := reads_any _ _ _ S14.out.dev 2 _ 128 128 _ (G6.out.bys (by intro j hj; refine ⟨?_, ?_⟩ <;> decide) 128)
  rw [S14.out.D, r2] at hC
  refine hC.mono ?_
  clear hC
  rintro e W15 ⟨rfl, hB⟩
  have G6 := Lib.hid (G6.out.next hB)
  have S15 := Lib.hid (S14.out.next hB)
  clear hB S14
  clear G6 HG6
  go_wp2_with (fail)
  refine (full_any 0 _).mono ?_
  rintro e W16 ⟨g7, hg, hlt, rfl, hP, hB⟩
  have hrow := RowF.new S15.out.dev hg hlt hP
  have HG7 := Lib.hid (Nat.le_trans S15.out.le hg)
  clear hg hlt hP
  have S16 := Lib.hid (S15.out.next hB)
  clear hB S15
  have G7 := Lib.hid hrow
  clear hrow
  go_wp2_with (fail)
  have hC := reads_any _ _ _ S16.out.dev 0 _ 128 128 _ (G7.out.bys (by intro j hj; refine ⟨?_, ?_⟩ <;> decide) 128)
  rw [S16.out.D, r0] at hC
  refine hC.mono ?_
  clear hC
  rintro e W17 ⟨rfl, hB⟩
  have G7 := Lib.hid (G7.out.next hB)
  have S17 := Lib.hid (S16.out.next hB)
  clear hB S16
  clear G7 HG7
  go_wp2
  go_ret
  exact ⟨rfl, S17.out.below⟩
end Go.Proofs.Yteopbeafhhfdoaa.Al
