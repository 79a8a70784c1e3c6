/- The chapter's first examples. -/
import Derived.Test.YtmeamdfmcpkofaaDoorEBytes
import Derived.Test.YtmeamdfmcpkofaaDoorELine
import Derived.Test.YtmeamdfmcpkofaaDoorTText
set_option linter.unusedVariables false
set_option linter.unusedSimpArgs false
namespace Go.Proofs.YtmeamdfmcpkofaaDoor
open Go.RowKit Go.Shelf
theorem u8_inj {x y : Int} (hx : 0 ≤ x ∧ x < 256) (hy : 0 ≤ y ∧ y < 256) (h : UInt8.ofNat x.toNat = UInt8.ofNat y.toNat) : x = y := by
  have := congrArg UInt8.toNat h
  simp at this
  omega
theorem strN_inj : ∀ {xs ys : List Int}, (∀ x ∈ xs, 0 ≤ x ∧ x < 256) → (∀ x ∈ ys, 0 ≤ x ∧ x < 256) → (xs.map fun n => UInt8.ofNat n.toNat) = (ys.map fun n => UInt8.ofNat n.toNat) → xs = ys
  | [], [], _, _, _ => rfl
  | [], y :: ys, _, _, h => by cases h
  | x :: xs, [], _, _, h => by cases h
  | x :: xs, y :: ys, hx, hy, h => by
    injection h with h1 h2
    rw [u8_inj (hx x List.mem_cons_self) (hy y List.mem_cons_self) h1, strN_inj (fun z hz => hx z (List.mem_cons_of_mem _ hz)) (fun z hz => hy z (List.mem_cons_of_mem _ hz)) h2]
theorem toList_beq (s t : ByteArray) : (s.toList == t.toList) = decide (s = t) := by
  rw [Bool.eq_iff_iff, beq_iff_eq, decide_eq_true_iff]
  refine ⟨fun h => ?_, fun h => by rw [h]⟩
  rw [ByteArray.toList_eq, ByteArray.toList_eq] at h
  exact ByteArray.ext (Array.toList_inj.1 h)
/-- The entry of the first examples. -/
def a0 : En := ⟨2, 2, 5, 0, 0, 0, 0, 0, 258, 0, zeros⟩
theorem a0_ok : a0.ok := ⟨by unfold R64; decide, by unfold R64; decide, by unfold R64; decide, by unfold R64; decide, by unfold R64; decide, by unfold R64; decide, by unfold R64; decide, by unfold R64; decide, by decide, by decide, zeros_oct, zeros_len⟩
theorem a0_may : May 2 a0 := ⟨by decide, rfl, by decide, by decide, fun _ => rfl⟩
theorem a0_only {k : Nat} (m : May k a0) : k = 2 := by have := m.kind; simp [a0] at this; omega
theorem a0_bytes : strOfNums (bytesL 2 a0) = ⟨#[2, 2, 0, 0, 0, 0, 0, 0, 0, 5, 0, 0, 1, 2]⟩ := by kernel_rfl
theorem a0_line : strL (lineL 2 a0) = .string ⟨#[115, 117, 115, 112, 101, 99, 116, 32, 50, 32, 53, 32, 50, 53, 56]⟩ := by kernel_rfl
theorem built_a0 : Tryd.prog.built 27 [(0, .int .i64 2), (1, .int .i64 2), (2, .int .i64 5), (8, .int .u32 258)] = some (enV a0) := by kernel_rfl
theorem build_a0 {ops : Array Oper} {rest : List Oper} {o : Oper} {a : Act} {w : World} {Q : Exit → Act → World → Prop} {ps : Array (Nat × Operand)} (hgd : o.guard = none) (ho : o.op = .build 27 ps)
    (hp : (ps.map fun (i, x) => (i, a.eval x)).toList = [(0, .int .i64 2), (1, .int .i64 2), (2, .int .i64 5), (8, .int .u32 258)])
    (h : wpList Tryd.prog ops Q rest (a.put o.dst (.agg (enV a0))) w) : wpList Tryd.prog ops Q (o :: rest) a w := by
  refine wpList_build hgd 27 ps ho ?_ ?_
  · rw [hp, built_a0]; rfl
  · rw [hp, built_a0]; exact h
set_option maxRecDepth 100000 in
set_option maxHeartbeats 1000000 in
theorem alive_any (w : World) (hT : TabE w) (hP : Pow w) : Calls Tryd.prog 22 #[] w fun e w' => e = .returned (.bool true) ∧ Below w.heap.size w w' := by
  obtain ⟨W1, hW1⟩ : ∃ W1, W1 = w.alloc (.cells (enV a0) 27) := ⟨_, rfl⟩
  have hB1 : Below w.heap.size w W1 := by rw [hW1]; exact (Below.refl _ w).alloc (Nat.le_refl _) _
  have hA1 : At 27 W1 w.heap.size (enV a0) := by rw [hW1]; exact At.new _ _ _
  have HA1 := Lib.hid (And.intro hA1 hB1)
  have HBY := Lib.hid (bytes_any a0 a0_ok W1 (hT.next hB1))
  have HT := Lib.hid (And.intro (hT.next hB1) (hP.next hB1 (Nat.le_refl _)))
  have HW := Lib.hid hW1
  clear hT hP hA1 hB1 hW1
  go_enter Tryd.func22, Tryd.ntmps22
  go_wp2_with (first | (refine build_a0 rfl rfl (by rfl) ?_) | (refine store_en (X := a0) (g := w.heap.size) (At.new _ _ _) (by kernel_rfl) rfl rfl rfl rfl ?_; rw [alloc_setRow _ _ _ _ _ rfl, ← HW.out]) | (refine load_en (X := a0) (g := w.heap.size) HA1.out.1 rfl rfl rfl ?_) | fail)
  refine HBY.out.mono ?_
  rintro e W2 ⟨(⟨k, v, m, rfl, hO⟩ | ⟨hno, _⟩), hB2⟩
  rotate_left
  · exact absurd ⟨2, a0_may⟩ hno
  obtain rfl := a0_only m
  have hA2 : At 27 W2 w.heap.size (enV a0) := (hB2.block _ HA1.out.1.lt).trans HA1.out.1
  have HA2 := Lib.hid hA2
  have HLN := Lib.hid (line_any a0 a0_ok W2 (HT.out.1.next hB2) (HT.out.2.next hB2 (Nat.le_refl _)))
  have HO := Lib.hid hO
  have HB2 := Lib.hid (HA1.out.2.trans (hB2.mono HA1.out.2.size))
  clear hA2 hO hB2 m HBY
  go_wp2_with (first | (refine load_en HA2.out rfl rfl rfl ?_) | fail)
  refine HLN.out.mono ?_
  rintro e W3 ⟨(⟨k, m, rfl⟩ | ⟨hno, _⟩), hB3⟩
  rotate_left
  · exact absurd ⟨2, a0_may⟩ hno
  obtain rfl := a0_only m
  rw [a0_line]
  obtain ⟨va, vc, hv⟩ := HO.out.form
  have hc1 := conv_bys8 (show Bys8 W3.heap.size W3 (.slice va (bytesL 2 a0).length vc) (bytesL 2 a0) by rw [← hv]; exact (HO.out.below hB3 (Nat.le_refl _)).bys)
  rw [a0_bytes] at hc1
  subst hv
  have HE := Lib.hid (HB2.out.trans (hB3.mono HB2.out.size))
  clear hB3 m HLN
  go_wp2
  exact bodyPost_ret (v := .bool true) (by simp [results, Tryd.results22, go_sem]) rfl ⟨rfl, HE.out⟩
end Go.Proofs.YtmeamdfmcpkofaaDoor
