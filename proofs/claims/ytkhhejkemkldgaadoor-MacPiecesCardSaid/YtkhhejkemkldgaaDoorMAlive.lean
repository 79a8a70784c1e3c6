/- The chapter's second example: alive. -/
import Derived.Test.YtkhhejkemkldgaaDoorMSum
import Derived.Test.YtkhhejkemkldgaaDoorMFast
import Derived.Lib.SlBytesConst
set_option linter.unusedVariables false
set_option linter.unusedSimpArgs false
namespace Go.Proofs.YtkhhejkemkldgaaDoor
open Go.RowKit Go.Shelf
theorem conv_lit (g : Nat) (w : World) (hg : g = w.heap.size) (C : Array Value) (n : Nat) (hn : n = C.size) : (convert 33 33 (.slice (some ⟨g, 0, none⟩) n n)).run Tryd.prog (w.alloc (.cells C 5)) = .ok (.slice (some ⟨g, 0, none⟩) n n) (w.alloc (.cells C 5 (n, n + 1))) := by
  subst hg; subst hn
  exact Lib.run_convert_bytes_const (P := Tryd.prog) w 33 5 C _ _ Tryd.underlying33 Tryd.underlying5
theorem lit_bys (g : Nat) (w W : World) (hg : g = w.heap.size) (xs : List Int) (hx : ∀ x ∈ xs, 0 ≤ x ∧ x < 256) (vs : Array Value) (hv : vs = (vals8 xs).toArray) (n : Nat) (hn : n = xs.length) (fr : Nat × Nat) (hb : Below (w.heap.size + 1) (w.alloc (.cells vs 5 fr)) W) : Bys8 W.heap.size W (.slice (some ⟨g, 0, none⟩) xs.length n) xs := by
  subst hg
  have h := bys8_alloc (T := 5) w xs hx vs hv n n hn fr
  subst hn
  have h2 : Bys8 (w.heap.size + 1) (w.alloc (.cells vs 5 fr)) (.slice (some ⟨w.heap.size, 0, none⟩) xs.length xs.length) xs := by rw [World.size_alloc] at h; exact h
  exact (h2.below hb).mono (by have := hb.size; simpa using this)
set_option maxRecDepth 100000 in
set_option maxHeartbeats 2000000 in
theorem alive_any (w : World) (hT : Tabs w) :
    Calls Tryd.prog 23 #[] w fun e w' => e = .returned (.bool true) ∧ Below w.heap.size w w' := by
  have hzh := (zero_of_info zero_hash).1
  have hlt := hT.lt
  have B1 := ((Below.refl _ w).alloc (Nat.le_refl _) (.cells #[.int .u8 74, .int .u8 101, .int .u8 102, .int .u8 101] 5 (4, 5))).alloc (by simp) (.cells #[.int .u8 119, .int .u8 104, .int .u8 97, .int .u8 116, .int .u8 32, .int .u8 100, .int .u8 111, .int .u8 32, .int .u8 121, .int .u8 97, .int .u8 32, .int .u8 119, .int .u8 97, .int .u8 110, .int .u8 116, .int .u8 32, .int .u8 102, .int .u8 111, .int .u8 114, .int .u8 32, .int .u8 110, .int .u8 111, .int .u8 116, .int .u8 104, .int .u8 105, .int .u8 110, .int .u8 103, .int .u8 63] 5 (28, 29))
  have T1 := hT.below hlt B1
  have hj := lit_bys w.heap.size w ((w.alloc (.cells #[.int .u8 74, .int .u8 101, .int .u8 102, .int .u8 101] 5 (4, 5))).alloc (.cells #[.int .u8 119, .int .u8 104, .int .u8 97, .int .u8 116, .int .u8 32, .int .u8 100, .int .u8 111, .int .u8 32, .int .u8 121, .int .u8 97, .int .u8 32, .int .u8 119, .int .u8 97, .int .u8 110, .int .u8 116, .int .u8 32, .int .u8 102, .int .u8 111, .int .u8 114, .int .u8 32, .int .u8 110, .int .u8 111, .int .u8 116, .int .u8 104, .int .u8 105, .int .u8 110, .int .u8 103, .int .u8 63] 5 (28, 29))) rfl [74, 101, 102, 101] (by decide) #[.int .u8 74, .int .u8 101, .int .u8 102, .int .u8 101] rfl 4 rfl (4, 5) ((Below.refl _ _).alloc (by simp) _)
  have hw := lit_bys (w.heap.size + 1) (w.alloc (.cells #[.int .u8 74, .int .u8 101, .int .u8 102, .int .u8 101] 5 (4, 5))) ((w.alloc (.cells #[.int .u8 74, .int .u8 101, .int .u8 102, .int .u8 101] 5 (4, 5))).alloc (.cells #[.int .u8 119, .int .u8 104, .int .u8 97, .int .u8 116, .int .u8 32, .int .u8 100, .int .u8 111, .int .u8 32, .int .u8 121, .int .u8 97, .int .u8 32, .int .u8 119, .int .u8 97, .int .u8 110, .int .u8 116, .int .u8 32, .int .u8 102, .int .u8 111, .int .u8 114, .int .u8 32, .int .u8 110, .int .u8 111, .int .u8 116, .int .u8 104, .int .u8 105, .int .u8 110, .int .u8 103, .int .u8 63] 5 (28, 29))) (by simp) [119, 104, 97, 116, 32, 100, 111, 32, 121, 97, 32, 119, 97, 110, 116, 32, 102, 111, 114, 32, 110, 111, 116, 104, 105, 110, 103, 63] (by decide) #[.int .u8 119, .int .u8 104, .int .u8 97, .int .u8 116, .int .u8 32, .int .u8 100, .int .u8 111, .int .u8 32, .int .u8 121, .int .u8 97, .int .u8 32, .int .u8 119, .int .u8 97, .int .u8 110, .int .u8 116, .int .u8 32, .int .u8 102, .int .u8 111, .int .u8 114, .int .u8 32, .int .u8 110, .int .u8 111, .int .u8 116, .int .u8 104, .int .u8 105, .int .u8 110, .int .u8 103, .int .u8 63] rfl 28 rfl (28, 29) ((Below.refl _ _))
  have HO := Lib.hid (mof_any _ _ 4 _ _ 28 (by decide) (by decide) (by decide) (by decide) _ T1 hj hw)
  have HB1 := Lib.hid B1
  have hc1 := conv_lit w.heap.size w rfl #[.int .u8 74, .int .u8 101, .int .u8 102, .int .u8 101] 4 rfl
  have hc2 := conv_lit (w.heap.size + 1) (w.alloc (.cells #[.int .u8 74, .int .u8 101, .int .u8 102, .int .u8 101] 5 (4, 5))) (by simp) #[.int .u8 119, .int .u8 104, .int .u8 97, .int .u8 116, .int .u8 32, .int .u8 100, .int .u8 111, .int .u8 32, .int .u8 121, .int .u8 97, .int .u8 32, .int .u8 119, .int .u8 97, .int .u8 110, .int .u8 116, .int .u8 32, .int .u8 102, .int .u8 111, .int .u8 114, .int .u8 32, .int .u8 110, .int .u8 111, .int .u8 116, .int .u8 104, .int .u8 105, .int .u8 110, .int .u8 103, .int .u8 63] 28 rfl
  clear hj hw T1 hT B1
  go_enter Tryd.func23, Tryd.ntmps23
  go_wp2_with fail
  refine HO.out.mono ?_
  rintro e w2 ⟨rfl, hB2⟩
  have D2 := Lib.hid (HB1.out.trans (hB2.mono HB1.out.size))
  have H2 := Lib.hid (At.new 38 w2 (nums .u8 32 fun _ => 0))
  clear HO hB2 HB1
  go_wp2_with (first | (refine store_hash H2.out rfl rfl rfl rfl ?_) | (refine load_hash H2.out.row rfl rfl rfl ?_))
  have D3 : Below w.heap.size w ((w2.alloc (.cells (nums .u8 32 fun _ => 0) 38)).setRow w2.heap.size (nums .u8 32 (bf (tag [74, 101, 102, 101] [119, 104, 97, 116, 32, 100, 111, 32, 121, 97, 32, 119, 97, 110, 116, 32, 102, 111, 114, 32, 110, 111, 116, 104, 105, 110, 103, 63])))) := below_row (D2.out.alloc D2.out.size _) D2.out.size _
  refine (text_any _ (tag_bytes _ _) _).mono ?_
  rintro e w3 ⟨rfl, hB3⟩
  have D4 := Lib.hid (D3.trans (hB3.mono D3.size))
  rw [text_jefe]
  clear D3 hB3 D2 H2
  go_wp2
  go_ret
  exact ⟨rfl, D4.out⟩
end Go.Proofs.YtkhhejkemkldgaaDoor
