/- Decimal digits of a number of uint64; a field's text. -/
import Derived.Test.YtmeamdfmcpkofaaDoorEShelf
import Derived.Test.YtmeamdfmcpkofaaDoorEField
import Derived.Lib.AppendIntMem
set_option linter.unusedVariables false
set_option linter.unusedSimpArgs false
namespace Go.Proofs.YtmeamdfmcpkofaaDoor
open Go.RowKit Go.Shelf Go.Sort
/-- The library's table of powers. -/
def Pow (w : World) : Prop := ∃ T fr, w.heap[5]? = some (.cells (Lib.pow10Tab.map fun z => Value.int .u64 z).toArray T fr)
theorem Pow.next {B : Nat} {w w' : World} (h : Pow w) (hb : Below B w w') (hB : w.heap.size ≤ B) : Pow w' := by
  obtain ⟨T, fr, e⟩ := h
  exact ⟨T, fr, (hb.block _ (Nat.lt_of_lt_of_le (Array.getElem?_eq_some_iff.1 e).1 hB)).trans e⟩
theorem gPow : Tryd.prog.globalNamed "internal/strconv.uint64pow10" = some 5 := by kernel_rfl
theorem Pow.tab {w : World} (h : Pow w) : Lib.TabIs Tryd.prog w "internal/strconv.uint64pow10" .u64 Lib.pow10Tab := by
  obtain ⟨T, fr, e⟩ := h
  unfold Lib.TabIs World.var?
  simp only [gPow, Option.bind_some, e]
theorem below_grow (w : World) (os : Array Obj) : Below w.heap.size w (Go.Sort.grow w os) :=
  ⟨rfl, rfl, rfl, by simp [Go.Sort.grow], fun k hk => by simp [Go.Sort.grow]; rw [Array.getElem?_append_left hk]⟩
theorem below_grow_drew (w : World) (k : Nat) (os : Array Obj) : Below w.heap.size w (Go.Sort.grow (w.drewN k) os) := by
  have h := below_grow (w.drewN k) os
  exact ⟨h.os, h.tape, h.output, h.size, h.block⟩
set_option maxRecDepth 100000 in
set_option maxHeartbeats 1000000 in
theorem ifmtu_any (u : Nat) (hu : u < 18446744073709551616) (w : World) (hT : Pow w) : Calls Tryd.prog 60 #[.int .u64 (u : Int), .int .i64 10] w fun e w' => e = .returned (.string ⟨(Lib.decDigits u).toArray⟩) ∧ Below w.heap.size w w' := by
  by_cases hs : u < 100
  · have hsm := internal_strconv_small u hs w
    have HS := Lib.hid hsm
    have i0 : (u : Int) < 100 := by omega
    have i1 : (0 : Int) ≤ (u : Int) := by omega
    have i2 : wrap64 (u : Int) = (u : Int) := by unfold wrap64; omega
    clear hsm hT
    go_enter Tryd.func60, Tryd.ntmps60
    go_wp2_with fail
    refine HS.out.mono ?_
    rintro e w' ⟨rfl, rfl⟩
    go_wp2
    go_ret
    exact ⟨rfl, Below.refl _ _⟩
  · have hu1 : 1 ≤ u := by omega
    have hnd : Lib.nDigits u ≤ 20 := by have := Lib.numDigits_eq u hu1 hu; split at this <;> omega
    have hH := Lib.holds_zero0 w 114 (Lib.nDigits u) (by omega)
    have hF := internal_strconv_formatBase10 w.heap.size 0 24 u (Array.replicate (Lib.nDigits u) 0) (w.alloc (.cells Lib.zeros24 114)) hH (by rw [Array.size_replicate]; exact Lib.lt_pow_nDigits u) hu (by rw [Array.size_replicate]; omega)
    rw [Array.size_replicate] at hF
    have HF := Lib.hid hF
    have HH := Lib.hid hH
    have HND := Lib.hid (internal_strconv_numDigits u hu1 hu (w.alloc (.cells Lib.zeros24 114)) (Lib.tabIs_alloc hT.tab _))
    have hal : Tryd.prog.arrayLen 114 = 24 := by kernel_rfl
    have hsl : ∀ W, (Instr.sliceAt 114 (.pointer (some ⟨w.heap.size, 0, none⟩)) none (some (.int .i64 (Lib.nDigits u : Int))) none).run Tryd.prog W = .ok (.slice (some ⟨w.heap.size, 0, none⟩) (Lib.nDigits u) 24) W := fun W => by
      rw [run_sliceAt_array_h W 114 ⟨w.heap.size, 0, none⟩ (by kernel_rfl) .i64 (Lib.nDigits u : Int) (by omega) (by rw [hal]; omega)]
      go_simp
    have HSL := Lib.hid hsl
    have g0 : ¬ (u : Int) < 100 := by omega
    clear hF hH hal hsl hT hs
    go_enter Tryd.func60, Tryd.ntmps60
    go_wp2_with fail
    refine HND.out.mono ?_
    rintro e w' ⟨rfl, rfl⟩
    have hsl := HSL.out
    go_wp2_with fail
    refine HF.out.mono ?_
    rintro e w' ⟨rfl, k, v', dk, rfl, hF⟩
    have hcv : (convert 28 9 (.slice (some ⟨w.heap.size, 0, none⟩) (Lib.nDigits u) 24)).run Tryd.prog ((putRow (fun (b : UInt8) => Value.int .u8 (b.toNat : Int)) (w.alloc (.cells Lib.zeros24 114)) w.heap.size 0 dk).drewN k) = .ok (.string ⟨(Lib.decDigits u).toArray⟩) ((putRow (fun (b : UInt8) => Value.int .u8 (b.toNat : Int)) (w.alloc (.cells Lib.zeros24 114)) w.heap.size 0 dk).drewN k) := by
      have h := run_convert_bytes_back (P := Tryd.prog) ((putRow (fun (b : UInt8) => Value.int .u8 (b.toNat : Int)) (w.alloc (.cells Lib.zeros24 114)) w.heap.size 0 dk).drewN k) 28 9 5 ⟨w.heap.size, 0, none⟩ 24 (Lib.decDigits u) Tryd.underlying28 Tryd.underlying5 Tryd.underlying9 (fun j hj => by
        rw [Lib.row_is_numeral hF j hj, Lib.add_plain, World.cell?_drewN]
        exact cell?_putRow (fun (b : UInt8) => Value.int .u8 (b.toNat : Int)) _ w.heap.size 0 _ dk HH.out (by rw [hF.size, Array.size_replicate]) j (by rw [hF.size]; rw [Lib.decDigits_length] at hj; exact hj))
      rw [Lib.decDigits_length] at h
      exact h
    have HB := Lib.hid (show Below w.heap.size w ((putRow (fun (b : UInt8) => Value.int .u8 (b.toNat : Int)) (w.alloc (.cells Lib.zeros24 114)) w.heap.size 0 dk).drewN k) from by
      obtain ⟨os, eo⟩ := Lib.fin_at w (.cells Lib.zeros24 114) dk k 0
      rw [eo]
      exact below_grow_drew w k os)
    clear hF
    go_wp2
    go_ret
    exact ⟨rfl, HB.out⟩
set_option maxHeartbeats 1000000 in
theorem fmtu_any (u : Nat) (hu : u < 18446744073709551616) (w : World) (hT : Pow w) : Calls Tryd.prog 51 #[.int .u64 (u : Int), .int .i64 10] w fun e w' => e = .returned (.string ⟨(Lib.decDigits u).toArray⟩) ∧ Below w.heap.size w w' := by
  have H := Lib.hid (ifmtu_any u hu w hT)
  clear hT
  go_enter Tryd.func51, Tryd.ntmps51
  go_wp2_with fail
  refine H.out.mono ?_
  rintro e w' ⟨rfl, hb⟩
  have HB := Lib.hid hb
  clear hb
  go_wp2
  go_ret
  exact ⟨rfl, HB.out⟩
/-- The text of a field's number. -/
def textF (k f : Nat) (n : Int) : List UInt8 := if signB k f then Lib.itoa (s64 n) else Lib.decDigits n.toNat
set_option maxHeartbeats 1000000 in
theorem text_field (k f : Nat) (n : Int) (hn : 0 ≤ n ∧ n < 18446744073709551616) (w : World) (hT : Pow w) : Calls Tryd.prog 34 #[.agg (fdV k f), .int .u64 n] w fun e w' => e = .returned (.string ⟨(textF k f n).toArray⟩) ∧ Below w.heap.size w w' := by
  have hB : Below w.heap.size w (w.alloc (.cells (fdV k f) 66)) := (Below.refl _ w).alloc (Nat.le_refl _) _
  have hT1 := hT.next hB (Nat.le_refl _)
  unfold fdV at hB hT1 ⊢
  by_cases hs : signB k f = true
  · have e : textF k f n = Lib.itoa (s64 n) := by unfold textF; rw [if_pos hs]
    have hr := s64_r hn
    have H := Lib.hid (strconv_FormatInt_10 (s64 n) hr.1 hr.2 _ hT1.tab)
    have ew := wrap64_s64 hn
    have HB := Lib.hid hB
    rw [e]
    rw [hs] at H HB ⊢
    generalize s64 n = m at *
    clear hB hT1 hs e hr hT hn
    go_enter Tryd.func34, Tryd.ntmps34
    go_wp2_with fail
    refine H.out.mono ?_
    rintro e w' ⟨rfl, j, os, rfl⟩
    go_wp2
    go_ret
    exact ⟨rfl, HB.out.trans ((below_grow_drew _ j os).mono (by simp))⟩
  · have hs' : signB k f = false := by simpa using hs
    have e : textF k f n = Lib.decDigits n.toNat := by unfold textF; rw [if_neg hs]
    obtain ⟨u, rfl⟩ : ∃ u : Nat, n = (u : Int) := ⟨n.toNat, by omega⟩
    rw [Int.toNat_natCast] at e
    have H := Lib.hid (fmtu_any u (by omega) _ hT1)
    have HB := Lib.hid hB
    rw [e]
    rw [hs'] at H HB ⊢
    clear hB hT1 hs hs' e hT hn
    go_enter Tryd.func34, Tryd.ntmps34
    go_wp2_with fail
    refine H.out.mono ?_
    rintro e w' ⟨rfl, hb⟩
    have HB2 := Lib.hid hb
    clear hb
    go_wp2
    go_ret
    exact ⟨rfl, HB.out.trans (HB2.out.mono (by simp))⟩
end Go.Proofs.YtmeamdfmcpkofaaDoor
