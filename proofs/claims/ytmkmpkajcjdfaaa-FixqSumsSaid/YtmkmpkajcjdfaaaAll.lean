/- The contract of the document's All: the sum of a list's numbers, or that it is none (100 numbers). -/
import Derived.Test.YtmkmpkajcjdfaaaInt
import Derived.Test.YtmkmpkajcjdfaaaSlices
set_option linter.unusedVariables false
namespace Go.Proofs.Ytmkmpkajcjdfaaa
open Go.RowKit Go.Shelf
theorem isum_abs (zs : List I64) : (isum zs).natAbs ≤ 9223372036854775808 * zs.length := by
  have := isum_bd zs; omega
theorem take_snoc_getD {es : List I64} {k : Nat} (h : k < es.length) : es.take (k + 1) = es.take k ++ [es[k]?.getD z0] := by
  rw [List.take_succ_eq_append_getElem h]; simp [h]
theorem zero_sgn : zeroNum = sgn 0 := num_congr fun j _ => by simp [bitf]
set_option maxRecDepth 100000 in
set_option maxHeartbeats 2000000 in
theorem all_any (a0 : Option Addr) (len cap : Nat) (es : List I64) (hl : len ≤ 100) (he : es.length = len) (w : World) (hI : Ints w.heap.size w (.slice a0 len cap) es) :
    Calls Try.prog 16 #[.slice a0 len cap] w fun e w' => e = .returned (.tuple #[.int .i64 (tv (isum es)), .int .i64 (te (isum es))]) ∧ Below w.heap.size w w' := by
  have hz := (zero_of_info info42).1
  have HI := Lib.hid hI
  have HE := Lib.hid he
  clear hI he
  go_enter Try.func16, Try.ntmps16
  go_wp2
  go_loopw [5] (fun i wr => ∃ k : Nat, k ≤ len ∧ i = .int .i64 k ∧ At wr w.heap.size (sgn (isum (es.take k))) ∧ Below w.heap.size w wr) (fun i _ => len - (intOf i).toNat)
  case atStart => exact ⟨0, by omega, rfl, by rw [List.take_zero, isum_nil, ← zero_sgn]; exact At.new w _, (Below.refl _ w).alloc (Nat.le_refl _) _⟩
  case round =>
    obtain ⟨k, hk, rfl, hx, hB⟩ := hrel
    by_cases hlt : k < len
    · obtain ⟨bb, off, rfl, hlen, hbb, hcell⟩ : ∃ b off, a0 = some ⟨b, off, none⟩ ∧ len = es.length ∧ b < w.heap.size ∧ wr.cell? ⟨b, off + k, none⟩ = some (.int .i64 (es[k]?.getD z0).1) := by
        rcases HI.out.below hB with ⟨rfl, _⟩ | ⟨b, off, c, e, hb, hc⟩
        · have := HE.out; simp at this; omega
        · simp only [Value.slice.injEq] at e
          obtain ⟨rfl, rfl, rfl⟩ := e
          exact ⟨b, off, rfl, rfl, hb, hc k hlt⟩
      have HX := Lib.hid hx
      have HL := Lib.hid hlen
      clear hx hlen
      go_wp2
      refine wp_region_any (by kernel_rfl) ?_
      change wpAny _ _ _ _ _ _ _ (World.drew _)
      refine wpAny_take (i := 1) (v := .slice (some ⟨bb, off, none⟩) len cap) rfl (by kernel_rfl) (by kernel_rfl) (by kernel_rfl) (fun _ _ _ h => h) (Or.inl ⟨by rfl, ?_⟩) ?_
      · intro w; go_simp
      refine wpAny_take (i := 2) (v := .int .i64 k) rfl (by kernel_rfl) (by kernel_rfl) (by kernel_rfl) (fun _ _ _ h => h) (Or.inl ⟨by rfl, ?_⟩) ?_
      · intro w; go_simp
      refine wpAny_take (i := 3) (v := .pointer (some ⟨bb, off + k, none⟩)) rfl (by kernel_rfl) (by kernel_rfl) (by kernel_rfl) (fun _ _ _ h => h) (Or.inl ⟨by rfl, ?_⟩) ?_
      · intro w; go_simp
      refine wpAny_ready (rs := [0, 4]) (by kernel_rfl) (by simp) ?_
      have hX := (es[k]?.getD z0).2
      have hVb : (isum (es.take k)).natAbs + ((es[k]?.getD z0).1).natAbs < 2 ^ 200 := by
        have h1 := isum_abs (es.take k)
        have h2 : (es.take k).length ≤ 100 := by rw [List.length_take]; omega
        have h3 : 9223372036854775808 * (es.take k).length ≤ 9223372036854775808 * 100 := Nat.mul_le_mul_left _ h2
        omega
      obtain ⟨V, hVV⟩ : ∃ V, isum (es.take k) = V := ⟨_, rfl⟩
      rw [hVV] at hVb HX
      have HV := Lib.hid hVb
      have HVV := Lib.hid hVV
      clear hVb hVV
      refine AllReady.cons rfl (fun K hK => ?_) (AllReady.cons rfl (fun K hK => ?_) AllReady.nil)
      · refine step_load_num (w := wr.drew) (g := w.heap.size) HX.out rfl rfl rfl ?_
        refine hK _ _ ?_
        clear hK K
        refine wpAny_ready (rs := [4]) (by kernel_rfl) (by simp) (AllReady.cons rfl (fun K hK => ?_) AllReady.nil)
        go_simp
        refine hK _ _ ?_
        clear hK K
        refine wpAny_ready (rs := [5]) (by kernel_rfl) (by simp) (AllReady.cons rfl (fun K hK => ?_) AllReady.nil)
        go_simp
        refine (signed_any (es[k]?.getD z0).1 hX.1 hX.2 wr.drew).mono ?_
        rintro e w3 ⟨rfl, hB3⟩
        refine hK _ _ ?_
        clear hK K
        have hx3 : At w3 w.heap.size (sgn V) := HX.out.below (W := wr.drew) HX.out.lt hB3
        have hB5 : Below w.heap.size w w3 := hB.drew.trans (hB3.mono hB.size)
        refine wpAny_ready (rs := [6]) (by kernel_rfl) (by simp) (AllReady.cons rfl (fun K hK => ?_) AllReady.nil)
        go_simp
        refine (rsum_any V (es[k]?.getD z0).1 HV.out w3).mono ?_
        rintro e w4 ⟨rfl, hB4⟩
        refine hK _ _ ?_
        clear hK K
        have hx4 : At w4 w.heap.size (sgn V) := hx3.below hx3.lt hB4
        refine wpAny_ready (rs := [7]) (by kernel_rfl) (by simp) (AllReady.cons rfl (fun K hK => ?_) AllReady.nil)
        refine step_store_num (w := w4) (g := w.heap.size) (neg := decide (V + (es[k]?.getD z0).1 < 0)) (f := bitf (V + (es[k]?.getD z0).1).natAbs) hx4 rfl rfl rfl rfl ?_
        refine hK _ _ ?_
        clear hK K
        refine wpAny_done (by kernel_rfl) ?_ _
        have hx5 : At (w4.setRow w.heap.size (num (decide (V + (es[k]?.getD z0).1 < 0)) (bitf (V + (es[k]?.getD z0).1).natAbs))) w.heap.size (sgn (V + (es[k]?.getD z0).1)) := hx4.row
        have hB6 : Below w.heap.size w (w4.setRow w.heap.size (num (decide (V + (es[k]?.getD z0).1 < 0)) (bitf (V + (es[k]?.getD z0).1).natAbs))) := below_row (hB5.trans (hB4.mono hB5.size)) (Nat.le_refl _) _
        generalize World.setRow w4 _ _ = w5 at *
        clear hx3 hx4 hB3 hB4 hB5
        go_wp2
        go_roundw
        case rel => exact ⟨k + 1, by omega, by go_num, by rw [take_snoc_getD (by rw [HE.out]; exact hlt), isum_snoc, HVV.out]; exact hx5, hB6⟩
        case measure => simp [intOf]; omega
      · go_simp
        refine hK _ _ ?_
        clear hK K
        refine wpAny_ready (rs := [0, 5]) (by kernel_rfl) (by simp) ?_
        refine AllReady.cons rfl (fun K hK => ?_) (AllReady.cons rfl (fun K hK => ?_) AllReady.nil)
        · refine step_load_num (w := wr.drew) (g := w.heap.size) HX.out rfl rfl rfl ?_
          refine hK _ _ ?_
          clear hK K
          refine wpAny_ready (rs := [5]) (by kernel_rfl) (by simp) (AllReady.cons rfl (fun K hK => ?_) AllReady.nil)
          go_simp
          refine (signed_any (es[k]?.getD z0).1 hX.1 hX.2 wr.drew).mono ?_
          rintro e w3 ⟨rfl, hB3⟩
          refine hK _ _ ?_
          clear hK K
          have hx3 : At w3 w.heap.size (sgn V) := HX.out.below (W := wr.drew) HX.out.lt hB3
          have hB5 : Below w.heap.size w w3 := hB.drew.trans (hB3.mono hB.size)
          refine wpAny_ready (rs := [6]) (by kernel_rfl) (by simp) (AllReady.cons rfl (fun K hK => ?_) AllReady.nil)
          go_simp
          refine (rsum_any V (es[k]?.getD z0).1 HV.out w3).mono ?_
          rintro e w4 ⟨rfl, hB4⟩
          refine hK _ _ ?_
          clear hK K
          have hx4 : At w4 w.heap.size (sgn V) := hx3.below hx3.lt hB4
          refine wpAny_ready (rs := [7]) (by kernel_rfl) (by simp) (AllReady.cons rfl (fun K hK => ?_) AllReady.nil)
          refine step_store_num (w := w4) (g := w.heap.size) (neg := decide (V + (es[k]?.getD z0).1 < 0)) (f := bitf (V + (es[k]?.getD z0).1).natAbs) hx4 rfl rfl rfl rfl ?_
          refine hK _ _ ?_
          clear hK K
          refine wpAny_done (by kernel_rfl) ?_ _
          have hx5 : At (w4.setRow w.heap.size (num (decide (V + (es[k]?.getD z0).1 < 0)) (bitf (V + (es[k]?.getD z0).1).natAbs))) w.heap.size (sgn (V + (es[k]?.getD z0).1)) := hx4.row
          have hB6 : Below w.heap.size w (w4.setRow w.heap.size (num (decide (V + (es[k]?.getD z0).1 < 0)) (bitf (V + (es[k]?.getD z0).1).natAbs))) := below_row (hB5.trans (hB4.mono hB5.size)) (Nat.le_refl _) _
          generalize World.setRow w4 _ _ = w5 at *
          clear hx3 hx4 hB3 hB4 hB5
          go_wp2
          go_roundw
          case rel => exact ⟨k + 1, by omega, by go_num, by rw [take_snoc_getD (by rw [HE.out]; exact hlt), isum_snoc, HVV.out]; exact hx5, hB6⟩
          case measure => simp [intOf]; omega
        · go_simp
          refine (signed_any (es[k]?.getD z0).1 hX.1 hX.2 wr.drew).mono ?_
          rintro e w3 ⟨rfl, hB3⟩
          refine hK _ _ ?_
          clear hK K
          have hx3 : At w3 w.heap.size (sgn V) := HX.out.below (W := wr.drew) HX.out.lt hB3
          have hB5 : Below w.heap.size w w3 := hB.drew.trans (hB3.mono hB.size)
          refine wpAny_ready (rs := [0]) (by kernel_rfl) (by simp) (AllReady.cons rfl (fun K hK => ?_) AllReady.nil)
          refine step_load_num (w := w3) (g := w.heap.size) hx3 rfl rfl rfl ?_
          refine hK _ _ ?_
          clear hK K
          refine wpAny_ready (rs := [6]) (by kernel_rfl) (by simp) (AllReady.cons rfl (fun K hK => ?_) AllReady.nil)
          go_simp
          refine (rsum_any V (es[k]?.getD z0).1 HV.out w3).mono ?_
          rintro e w4 ⟨rfl, hB4⟩
          refine hK _ _ ?_
          clear hK K
          have hx4 : At w4 w.heap.size (sgn V) := hx3.below hx3.lt hB4
          refine wpAny_ready (rs := [7]) (by kernel_rfl) (by simp) (AllReady.cons rfl (fun K hK => ?_) AllReady.nil)
          refine step_store_num (w := w4) (g := w.heap.size) (neg := decide (V + (es[k]?.getD z0).1 < 0)) (f := bitf (V + (es[k]?.getD z0).1).natAbs) hx4 rfl rfl rfl rfl ?_
          refine hK _ _ ?_
          clear hK K
          refine wpAny_done (by kernel_rfl) ?_ _
          have hx5 : At (w4.setRow w.heap.size (num (decide (V + (es[k]?.getD z0).1 < 0)) (bitf (V + (es[k]?.getD z0).1).natAbs))) w.heap.size (sgn (V + (es[k]?.getD z0).1)) := hx4.row
          have hB6 : Below w.heap.size w (w4.setRow w.heap.size (num (decide (V + (es[k]?.getD z0).1 < 0)) (bitf (V + (es[k]?.getD z0).1).natAbs))) := below_row (hB5.trans (hB4.mono hB5.size)) (Nat.le_refl _) _
          generalize World.setRow w4 _ _ = w5 at *
          clear hx3 hx4 hB3 hB4 hB5
          go_wp2
          go_roundw
          case rel => exact ⟨k + 1, by omega, by go_num, by rw [take_snoc_getD (by rw [HE.out]; exact hlt), isum_snoc, HVV.out]; exact hx5, hB6⟩
          case measure => simp [intOf]; omega
    · have ek : k = len := by omega
      subst ek
      rw [List.take_of_length_le (by rw [HE.out]; omega)] at hx
      have hVb : (isum es).natAbs < 2 ^ 200 := by
        have h1 := isum_abs es
        rw [HE.out] at h1
        omega
      have HX := Lib.hid hx
      have HV := Lib.hid hVb
      clear hx hVb
      go_wp2_with (refine load_num HX.out rfl rfl rfl ?_)
      refine (told_any (isum es) HV.out _).mono ?_
      rintro e w2 ⟨rfl, hB2⟩
      go_wp2
      go_ret2
      exact ⟨rfl, hB.trans (hB2.mono hB.size)⟩
end Go.Proofs.Ytmkmpkajcjdfaaa
