/- The block of a key. -/
import Derived.Test.YtkhhejkemkldgaaDoorMBlk
import Derived.Test.YtkhhejkemkldgaaDoorMMath
set_option linter.unusedVariables false
set_option linter.unusedSimpArgs false
namespace Go.Proofs.YtkhhejkemkldgaaDoor
open Go.RowKit Go.Shelf
theorem key_row (ks : List Int) (hl : ks.length ≤ 64) (j : Nat) (h : j < 64) : (if j < min 64 ks.length then ks.getD j 0 else (0 : Int)) = bf ks j := by
  by_cases h1 : j < ks.length
  · rw [if_pos (by omega)]; rfl
  · rw [if_neg (by omega)]; simp [bf, List.getD, List.getElem?_eq_none (by omega : ks.length ≤ j)]
set_option maxRecDepth 100000 in
set_option maxHeartbeats 1000000 in
theorem blockOf_short (A : Option Addr) (ks : List Int) (c : Nat) (hl : ks.length ≤ 64) (w : World) (hb : Bys8 w.heap.size w (.slice A ks.length c) ks) :
    Calls Tryd.prog 39 #[.slice A ks.length c] w fun e w' => e = .returned (.agg (nums .u8 64 (bf (keyB ks)))) ∧ Below w.heap.size w w' := by
  have hz := (zero_of_info zero_mblk).1
  have R1 := Lib.hid ((At.new 76 w (nums .u8 64 fun _ => 0)).alloc (.cells (nums .u8 64 fun _ => 0) 76))
  have P1 := At.new 76 (w.alloc (.cells (nums .u8 64 fun _ => 0) 76)) (nums .u8 64 fun _ => 0)
  rw [World.size_alloc] at P1
  have B1 := ((Below.refl _ w).alloc (Nat.le_refl _) (.cells (nums .u8 64 fun _ => 0) 76)).alloc (by simp) (.cells (nums .u8 64 fun _ => 0) 76)
  have HB := Lib.hid (hb.below B1)
  have HP := Lib.hid P1
  have HB1 := Lib.hid B1
  have e : keyB ks = ks := by unfold keyB; rw [if_neg (by omega)]
  rw [e]
  clear hb P1 B1 e
  go_enter Tryd.func39, Tryd.ntmps39
  go_wp2_with (first
    | (refine copy_mblk rfl (.tmp 11) (.tmp 12) rfl (w.heap.size + 1) 64 (fun _ => 0) rfl HP.out w.heap.size A ks.length c ks rfl HB.out ?_; intro w2 hP2 hG2; have HP2 := Lib.hid ((show At 76 w2 (w.heap.size + 1) (nums .u8 64 (bf ks)) from hP2.like (key_row ks hl))); have HR2 := Lib.hid (show At 76 w2 w.heap.size (nums .u8 64 fun _ => 0) from (hG2.block _ (by simp; omega) (fun e => by injection e; omega)).trans R1.out); have HB2 := Lib.hid (HB1.out.trans (grown_below hG2 (B := w.heap.size) (by omega) (by simp; omega))); clear hP2 hG2)
    | (refine load_mblk HP2.out rfl rfl rfl ?_) | (refine store_mblk HR2.out rfl rfl rfl rfl ?_))
  exact bodyPost_ret (v := .agg (nums .u8 64 (bf ks))) (results_mblk rfl _ _ w.heap.size _ rfl HR2.out.row) rfl ⟨rfl, below_row HB2.out (Nat.le_refl _) _⟩
set_option maxRecDepth 100000 in
set_option maxHeartbeats 1000000 in
theorem blockOf_long (A : Option Addr) (ks : List Int) (c : Nat) (hc : ks.length ≤ c) (hl : 64 < ks.length) (hr : ks.length ≤ 100000000000) (w : World) (hT : Tabs w) (hb : Bys8 w.heap.size w (.slice A ks.length c) ks) :
    Calls Tryd.prog 39 #[.slice A ks.length c] w fun e w' => e = .returned (.agg (nums .u8 64 (bf (keyB ks)))) ∧ Below w.heap.size w w' := by
  have hz := (zero_of_info zero_mblk).1
  have hzh := (zero_of_info zero_hash).1
  have R1 := ((At.new 76 w (nums .u8 64 fun _ => 0)).alloc (.cells (nums .u8 64 fun _ => 0) 76))
  have P1 := At.new 76 (w.alloc (.cells (nums .u8 64 fun _ => 0) 76)) (nums .u8 64 fun _ => 0)
  rw [World.size_alloc] at P1
  have B1 := ((Below.refl _ w).alloc (Nat.le_refl _) (.cells (nums .u8 64 fun _ => 0) 76)).alloc (by simp) (.cells (nums .u8 64 fun _ => 0) 76)
  have hz2 : ((w.alloc (.cells (nums .u8 64 fun _ => 0) 76)).alloc (.cells (nums .u8 64 fun _ => 0) 76)).heap.size = w.heap.size + 2 := by simp
  have HO := Lib.hid (of_any A ks c hr hc _ (hT.below hT.lt B1) ((hb.below B1).mono B1.size))
  have HP := Lib.hid P1
  have HR := Lib.hid R1
  have HB1 := Lib.hid B1
  have e : keyB ks = sha ks := by unfold keyB; rw [if_pos hl]
  rw [e]
  have hli : (64 : Int) < ks.length := by omega
  clear hb P1 B1 R1 e hT
  go_enter Tryd.func39, Tryd.ntmps39
  go_wp2_with fail
  generalize ((w.alloc (.cells (nums .u8 64 fun _ => 0) 76)).alloc (.cells (nums .u8 64 fun _ => 0) 76)) = w2 at *
  refine HO.out.mono ?_
  rintro e w3 ⟨rfl, hB3⟩
  have hw3 := hB3.size
  have H4 := Lib.hid (At.new 38 w3 (nums .u8 32 fun _ => 0))
  have P3 := Lib.hid (((HP.out.below (by omega) hB3).alloc (.cells (nums .u8 32 fun _ => 0) 38)).rowOther (nums .u8 32 (bf (sha ks))) (show w.heap.size + 1 ≠ w3.heap.size by omega))
  have R3 := Lib.hid (((HR.out.below (by omega) hB3).alloc (.cells (nums .u8 32 fun _ => 0) 38)).rowOther (nums .u8 32 (bf (sha ks))) (show w.heap.size ≠ w3.heap.size by omega))
  have B3 := Lib.hid (below_row ((HB1.out.trans (hB3.mono HB1.out.size)).alloc (by omega) (.cells (nums .u8 32 fun _ => 0) 38)) (show w.heap.size ≤ w3.heap.size by omega) (nums .u8 32 (bf (sha ks))))
  have hsz := size_setRow (w3.alloc (.cells (nums .u8 32 fun _ => 0) 38)) w3.heap.size (nums .u8 32 (bf (sha ks)))
  rw [World.size_alloc] at hsz
  have hk8 : Bys8 ((w3.alloc (.cells (nums .u8 32 fun _ => 0) 38)).setRow w3.heap.size (nums .u8 32 (bf (sha ks)))).heap.size ((w3.alloc (.cells (nums .u8 32 fun _ => 0) 38)).setRow w3.heap.size (nums .u8 32 (bf (sha ks)))) (.slice (some ⟨w3.heap.size, 0, none⟩) (sha ks).length 32) (sha ks) :=
    ⟨sha_bytes _, .inr ⟨w3.heap.size, 0, 32, rfl, by rw [hsz]; omega, fun j hj => by rw [sha_length] at hj; rw [Nat.zero_add]; exact H4.out.row.num j hj⟩⟩
  rw [sha_length] at hk8
  have HK8 := Lib.hid hk8
  clear hk8 hB3 HO HP HR HB1
  go_wp2_with (first
    | (refine store_hash H4.out rfl rfl rfl rfl ?_)
    | (refine copy_mblk rfl (.tmp 11) (.tmp 12) rfl (w.heap.size + 1) 64 (fun _ => 0) rfl P3.out _ (some ⟨w3.heap.size, 0, none⟩) 32 32 (sha ks) rfl HK8.out ?_; intro w4 hP4 hG4; have HP4 := Lib.hid (show At 76 w4 (w.heap.size + 1) (nums .u8 64 (bf (sha ks))) from hP4.like (key_row (sha ks) (by rw [sha_length]; decide))); have HR4 := Lib.hid (show At 76 w4 w.heap.size (nums .u8 64 fun _ => 0) from (hG4.block _ (by rw [hsz]; omega) (fun e => by injection e; omega)).trans R3.out); have HB4 := Lib.hid (B3.out.trans (grown_below hG4 (B := w.heap.size) (by omega) (by rw [hsz]; omega))); clear hP4 hG4)
    | (refine load_mblk HP4.out rfl rfl rfl ?_) | (refine store_mblk HR4.out rfl rfl rfl rfl ?_))
  exact bodyPost_ret (v := .agg (nums .u8 64 (bf (sha ks)))) (results_mblk rfl _ _ w.heap.size _ rfl HR4.out.row) rfl ⟨rfl, below_row HB4.out (Nat.le_refl _) _⟩
theorem blockOf_any (A : Option Addr) (ks : List Int) (c : Nat) (hc : ks.length ≤ c) (hr : ks.length ≤ 100000000000) (w : World) (hT : Tabs w) (hb : Bys8 w.heap.size w (.slice A ks.length c) ks) :
    Calls Tryd.prog 39 #[.slice A ks.length c] w fun e w' => e = .returned (.agg (nums .u8 64 (bf (keyB ks)))) ∧ Below w.heap.size w w' := by
  by_cases hl : ks.length ≤ 64
  · exact blockOf_short A ks c hl w hb
  · exact blockOf_long A ks c hc (by omega) hr w hT hb
end Go.Proofs.YtkhhejkemkldgaaDoor
