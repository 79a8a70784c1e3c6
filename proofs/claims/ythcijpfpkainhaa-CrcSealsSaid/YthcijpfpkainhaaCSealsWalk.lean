/- The walk of the statement CrcSeals. -/
import Derived.Test.YthcijpfpkainhaaCTells16
import Derived.Test.YthcijpfpkainhaaCTells32
import Derived.Test.YthcijpfpkainhaaCThreesWalk
import Derived.Deep.RegionWith
import Derived.Deep.CutRange
set_option linter.unusedVariables false
namespace Go.Proofs.Ythcijpfpkainhaa
open Go.RowKit Go.Shelf
set_option maxRecDepth 100000 in
set_option maxHeartbeats 2000000 in
theorem seals_any (a : Option Addr) (len cap : Nat) (za : List Int) (w : World) (ha : IsRow .u8 w a len cap za) :
    Calls Try.prog 4 #[.slice a len cap] w fun e w' => e = .returned (.bool true) ∧ Below w.heap.size w w' := by
  by_cases hl : len ≤ 4000
  · have hcap : len ≤ cap := by rcases ha with ⟨_, h1, h2, _⟩ | ⟨_, _, h1, _⟩ <;> omega
    obtain ⟨xs, hx, hI⟩ := bys_of_row ha
    obtain ⟨a', c', e⟩ := hI.is
    cases e
    clear hx ha
    have l16 := seal16_len xs
    have l32 := seal32_len xs
    have cv := fun w' (h : Below w.heap.size w w') => conv_bys (hI.below h)
    have c0 := cv w (Below.refl _ _)
    have r16 := fun w' (h : Below w.heap.size w w') => rseal16_any a xs.length cap xs w' ((hI.below h).mono h.size) (by omega)
    have r32 := fun w' (h : Below w.heap.size w w') => rseal32_any a xs.length cap xs w' ((hI.below h).mono h.size) (by omega)
    have R16 := Lib.hid r16
    have R32 := Lib.hid r32
    have CV := Lib.hid cv
    clear r16 r32 cv
    go_enter Try.func4, Try.ntmps4
    go_wp2_with fail
    refine (seal16_any a xs.length cap xs w hI (by omega)).mono ?_
    rintro e w2 ⟨a2, c2, rfl, hO2, hB2⟩
    go_wp2_with fail
    refine (seal32_any a xs.length cap xs w2 ((hI.below hB2).mono hB2.size) (by omega)).mono ?_
    rintro e w3 ⟨a3, c3, rfl, hO3, hB3⟩
    have h3 := hB2.trans (hB3.mono hB2.size)
    have q2 := fun w' (h : Below w3.heap.size w3 w') => conv_bys ((hO2.below (hB3.trans (h.mono hB3.size)) (Nat.le_refl _)).bys)
    have q3 := fun w' (h : Below w3.heap.size w3 w') => conv_bys ((hO3.below h (Nat.le_refl _)).bys)
    rw [l16] at q2
    rw [l32] at q3
    have dd : Below w3.heap.size w3 w3.drew := (Below.refl _ _).drew
    have h3d := h3.trans (dd.mono h3.size)
    have f2 := q2 w3.drew dd
    have f3 := q3 w3.drew dd
    have Q2 := Lib.hid q2
    have Q3 := Lib.hid q3
    clear q2 q3
    obtain ⟨g2, e2, hg2, hR2⟩ : ∃ g, a2 = some ⟨g, 0, none⟩ ∧ w.heap.size ≤ g ∧ Row g (xs.length + 2) (fun j => (seal16 xs).getD j 0) w3 := by
      rw [l16] at hO2
      have hO2' := (hO2.below hB3 (Nat.le_refl _)).2
      rw [l16] at hO2'
      rcases hO2'.2 with ⟨_, h⟩ | ⟨g, cap, cur, e, hg, hb, hn, hm, hs, ht⟩
      · omega
      · cases e
        refine ⟨g, rfl, hg, fun j hj => ⟨?_, by simp [World.frozen?, hb]⟩⟩
        have e1 := vals_get (seal16 xs) j (by rw [l16]; exact hj)
        rw [← ht, Nat.mul_one, List.getElem?_take_of_lt hj] at e1
        simp only [World.cell?, hb]
        simpa using e1
    subst e2
    have hg3 : g2 < w3.heap.size := World.block_lt_of_cell? w3 _ (hR2 0 (by omega)).1
    have HR2 := Lib.hid hR2
    clear hR2
    go_upto_region 6 with (fail)
    go_cut [37] from 24 to 37 (fun s wx => s = .bool false ∧ Below w3.heap.size w3 wx)
    case first =>
      go_region_with (first
        | (go_at_call 18; ((with_reducible refine (R16.out _ h3d).mono ?_); rintro e w4 ⟨a4, c4, rfl, hO4, hB4⟩)
           rw [l16] at hO4 ⊢
           have d4 := dd.trans (hB4.mono dd.size)
           have h4 := h3d.trans (hB4.mono h3d.size)
           have g1 := Q2.out w4 d4
           have g2 := conv_bys hO4.bys
           have g3 := Q3.out w4 d4)
        | (go_at_call 18; ((with_reducible refine (R32.out _ h4).mono ?_); rintro e w5 ⟨a5, c5, rfl, hO5, hB5⟩)
           rw [l32] at hO5 ⊢
           have d5 := d4.trans (hB5.mono d4.size)
           have h5 := h4.trans (hB5.mono h4.size)
           have k2 := conv_bys hO5.bys
           have k3 := Q3.out w5 d5))
      all_goals (go_wp2_with fail; go_meet; exact ⟨rfl, d5⟩)
    case rest =>
      obtain ⟨rfl, hD⟩ := hcut
      have hc := h3.trans (hD.mono h3.size)
      have hRc : Row g2 (xs.length + 2) (fun j => (seal16 xs).getD j 0) wc := by
        intro j hj
        exact ⟨(hD.cell (p := ⟨g2, j, none⟩) hg3).trans (HR2.out j hj).1, (hD.frozen (p := ⟨g2, j, none⟩) hg3).trans (HR2.out j hj).2⟩
      clear f2 f3 hO2 hO3
      have t16 := fun w' (h : Below w.heap.size w w') => open16_tells a xs.length cap xs w' ((hI.below h).mono h.size) hcap (by omega)
      have u16 := fun w' (h : Below w.heap.size w w') => ropen16_tells a xs.length cap xs w' ((hI.below h).mono h.size) hcap (by omega)
      have t32 := fun w' (h : Below w.heap.size w w') => open32_tells a xs.length cap xs w' ((hI.below h).mono h.size) hcap (by omega)
      have u32' := fun w' (h : Below w.heap.size w w') => ropen32_tells a xs.length cap xs w' ((hI.below h).mono h.size) hcap (by omega)
      generalize o16 xs = p16 at t16 u16
      generalize o32 xs = p32 at t32 u32'
      obtain ⟨y16, k16⟩ := p16
      obtain ⟨y32, k32⟩ := p32
      simp only at t16 u16 t32 u32'
      have T16 := Lib.hid t16
      have U16 := Lib.hid u16
      have T32 := Lib.hid t32
      have U32 := Lib.hid u32'
      clear t16 u16 t32 u32'
      go_wp2
      go_loopw [40] (fun i wr => ∃ k : Nat, k ≤ xs.length + 2 ∧ i = .int .i64 k ∧ (∃ f, Row g2 (xs.length + 2) f wr) ∧ Below w.heap.size w wr) (fun i _ => xs.length + 2 - (intOf i).toNat)
      case atStart => exact ⟨0, Nat.zero_le _, rfl, ⟨_, hRc⟩, hc⟩
      case round =>
        obtain ⟨k, hk, rfl, ⟨f, hRk⟩, hBk⟩ := hrel
        by_cases hlt : k < xs.length + 2
        · obtain ⟨cx, fx⟩ := hRk k hlt
          have HRK := Lib.hid hRk
          have hlt2 : (k : Int) < (xs.length : Int) + 2 := by omega
          clear hRk hRc
          go_wp2
          go_roundw
          case rel => exact ⟨k + 1, by omega, by simp, ⟨_, HRK.out.set k _⟩, hBk.setCell (p := ⟨g2, k, none⟩) hg2 _⟩
          case measure => simp [intOf]; omega
        · obtain rfl : k = xs.length + 2 := by omega
          clear hRk hRc
          go_wp2_with fail
          refine (T16.out wr hBk).mono ?_
          rintro e w4 ⟨a4, c4, rfl, hy4, hB4⟩
          have h4 := hBk.trans (hB4.mono hBk.size)
          go_wp2_with fail
          refine (U16.out w4 h4).mono ?_
          rintro e w5 ⟨a5, c5, rfl, hy5, hB5⟩
          have h5 := h4.trans (hB5.mono h4.size)
          go_wp2_with fail
          refine (T32.out w5 h5).mono ?_
          rintro e w6 ⟨a6, c6, rfl, hy6, hB6⟩
          have h6 := h5.trans (hB6.mono h5.size)
          go_wp2_with fail
          refine (U32.out w6 h6).mono ?_
          rintro e w7 ⟨a7, c7, rfl, hy7, hB7⟩
          have h7 := h6.trans (hB7.mono h6.size)
          have d6 := hB6.trans (hB7.mono hB6.size)
          have d5 := hB5.trans (d6.mono hB5.size)
          have v4 := conv_bys (hy4.below d5)
          have v5 := conv_bys (hy5.below d6)
          have v6 := conv_bys (hy6.below hB7)
          have v7 := conv_bys hy7
          have v0 := CV.out w7 h7
          generalize strOfNums y16 = z16 at *
          generalize strOfNums y32 = z32 at *
          generalize strOfNums xs = zx at *
          go_wp2
          go_ret
          exact ⟨rfl, h7⟩
  · have hl' : 4000 < len := by omega
    clear hl ha
    go_enter Try.func4, Try.ntmps4
    go_wp2
    go_ret
    exact ⟨rfl, Below.refl _ _⟩
end Go.Proofs.Ythcijpfpkainhaa
