/- The document's hash of bytes: what its walk stands on. -/
import Derived.Test.YtkhhejkemkldgaaDoorDMsg
import Derived.Test.YtkhhejkemkldgaaDoorDWords
import Derived.Test.YtkhhejkemkldgaaDoorSJoin
import Derived.Test.YtkhhejkemkldgaaDoorSRound
set_option linter.unusedVariables false
set_option linter.unusedSimpArgs false
namespace Go.Proofs.YtkhhejkemkldgaaDoor
open Go.RowKit Go.Shelf
theorem not_xor (e : Nat) (h : e < 4294967296) : 4294967295 - e = 4294967295 ^^^ e := by
  have h1 := BitVec.toNat_not (x := BitVec.ofNat 32 e)
  rw [BitVec.not_def, BitVec.toNat_xor] at h1
  simp only [BitVec.toNat_allOnes, BitVec.toNat_ofNat] at h1
  rw [Nat.mod_eq_of_lt (by omega)] at h1
  have : (2 : Nat) ^ 32 - 1 = 4294967295 := by decide
  rw [this] at h1
  omega
theorem ones_bit (i : Nat) : (4294967295 : Nat).testBit i = decide (i < 32) := by
  have := Nat.testBit_two_pow_sub_one 32 i
  rwa [show (2 : Nat) ^ 32 - 1 = 4294967295 by decide] at this
theorem choose_or (e f g : Nat) (he : e < 4294967296) : ((e &&& f) ||| (g &&& (4294967295 - e))) = choose e f g := by
  rw [not_xor e he]
  unfold choose
  apply Nat.eq_of_testBit_eq
  intro i
  simp only [Nat.testBit_or, Nat.testBit_and, Nat.testBit_xor, ones_bit]
  by_cases h : i < 32
  · simp only [h, decide_true]
    cases e.testBit i <;> cases f.testBit i <;> cases g.testBit i <;> rfl
  · have : e.testBit i = false := Nat.testBit_lt_two_pow (Nat.lt_of_lt_of_le (show e < 2 ^ 32 from he) (Nat.pow_le_pow_right (by decide) (by omega)))
    simp only [this, h, decide_false]
    cases f.testBit i <;> cases g.testBit i <;> rfl
theorem major_or (a b c : Nat) : (((a &&& b) ||| (a &&& c)) ||| (b &&& c)) = major a b c := by
  unfold major
  apply Nat.eq_of_testBit_eq
  intro i
  simp only [Nat.testBit_or, Nat.testBit_and, Nat.testBit_xor]
  cases a.testBit i <;> cases b.testBit i <;> cases c.testBit i <;> rfl
theorem or_lt32 {a b : Nat} (h : a < 4294967296) (h2 : b < 4294967296) : a ||| b < 4294967296 := Nat.or_lt_two_pow (n := 32) h h2
theorem dchoose_says (e f g : Nat) (he : e < 4294967296) (hf : f < 4294967296) (hg : g < 4294967296) :
    bits .or .u32 (bits .and .u32 (e : Int) (f : Int)) (bits .and .u32 (g : Int) (4294967295 - (e : Int))) = ((choose e f g : Nat) : Int) := by
  rw [show (4294967295 : Int) - (e : Int) = ((4294967295 - e : Nat) : Int) by omega]
  rw [and32 _ _ he hf, and32 _ _ hg (by omega), or32 _ _ (and_lt32 hf) (and_lt32 (by omega)), choose_or _ _ _ he]
theorem dmajor_says (a b c : Nat) (ha : a < 4294967296) (hb : b < 4294967296) (hc : c < 4294967296) :
    bits .or .u32 (bits .or .u32 (bits .and .u32 (a : Int) (b : Int)) (bits .and .u32 (a : Int) (c : Int))) (bits .and .u32 (b : Int) (c : Int)) = ((major a b c : Nat) : Int) := by
  rw [and32 _ _ ha hb, and32 _ _ ha hc, and32 _ _ hb hc, or32 _ _ (and_lt32 hb) (and_lt32 hc), or32 _ _ (or_lt32 (and_lt32 hb) (and_lt32 hc)) (and_lt32 hc), major_or]
theorem dconst_any (w : World) : Calls Tryd.prog 33 #[] w fun e w' => e = .returned (.slice (some ⟨w.heap.size, 0, none⟩) 64 64) ∧ At 25 w' w.heap.size (nums .u32 64 (wf roots)) ∧ Below w.heap.size w w' := by
  go_enter Tryd.func33, Tryd.ntmps33
  go_wp2
  go_ret
  exact ⟨rfl, heap_alloc_new w _, (Below.refl _ w).alloc (Nat.le_refl _) _⟩
theorem dfirst_any (w : World) : Calls Tryd.prog 34 #[] w fun e w' => e = .returned (.slice (some ⟨w.heap.size, 0, none⟩) 8 8) ∧ At 25 w' w.heap.size (nums .u32 8 (wf initial)) ∧ Below w.heap.size w w' := by
  go_enter Tryd.func34, Tryd.ntmps34
  go_wp2
  go_ret
  exact ⟨rfl, heap_alloc_new w _, (Below.refl _ w).alloc (Nat.le_refl _) _⟩
theorem plus_zero (M : List Int) : plus initial (adds M 0) = initial := by
  show plus initial [0, 0, 0, 0, 0, 0, 0, 0] = initial
  decide
theorem plus_more (M : List Int) (n j : Nat) (hj : j < 8) : wf (plus initial (adds M (n + 1))) j = (wf (plus initial (adds M n)) j + wf (comp (plus initial (adds M n)) (blk M n)) j) % 4294967296 := by
  unfold wf
  rw [plus_get _ _ _ hj, adds, plus_get _ _ _ hj, plus_get _ (adds M n) _ hj]
  omega
theorem turn_a2 (s : Eight) (k w : Nat) : ((((((s.h : Int) + (high1 s.e : Nat)) % 4294967296 + (choose s.e s.f s.g : Nat)) % 4294967296 + (k : Int)) % 4294967296 + (w : Int)) % 4294967296 + ((high0 s.a : Nat) + (major s.a s.b s.c : Nat)) % 4294967296) % 4294967296 = ((turn s k w).a : Nat) := by
  show _ = (((turnX s k w + turnY s) % 4294967296 : Nat) : Int)
  unfold turnX turnY; omega
theorem turn_e2 (s : Eight) (k w : Nat) : ((s.d : Int) + (((((s.h : Int) + (high1 s.e : Nat)) % 4294967296 + (choose s.e s.f s.g : Nat)) % 4294967296 + (k : Int)) % 4294967296 + (w : Int)) % 4294967296) % 4294967296 = ((turn s k w).e : Nat) := by
  show _ = (((s.d + turnX s k w) % 4294967296 : Nat) : Int)
  unfold turnX; omega
/-- The first m bytes of a hash. -/
def jx (s : List Nat) (m i : Nat) : Int := if i < m then bf (joined s) i else 0
theorem jx_zero (s : List Nat) : nums .u8 32 (fun _ => 0) = nums .u8 32 (jx s 0) := nums_congr fun j _ => by simp [jx]
theorem jx_all (s : List Nat) : nums .u8 32 (jx s 32) = nums .u8 32 (bf (joined s)) := nums_congr fun j hj => by unfold jx; rw [if_pos hj]
theorem jx_set (s : List Nat) (m : Nat) : (fun j => if j = m then bf (joined s) m else jx s m j) = jx s (m + 1) := by
  funext j
  unfold jx
  by_cases h : j = m
  · subst h; simp
  · by_cases h2 : j < m
    · simp [h, h2, show j < m + 1 by omega]
    · simp [h, h2, show ¬ j < m + 1 by omega]
theorem put8 {T : TypeId} {W : World} {g : Nat} {f f' : Nat → Int} (h : At T W g (nums .u32 8 f)) (x0 x1 x2 x3 x4 x5 x6 x7 : Int) (e0 : f' 0 = x0) (e1 : f' 1 = x1) (e2 : f' 2 = x2) (e3 : f' 3 = x3) (e4 : f' 4 = x4) (e5 : f' 5 = x5) (e6 : f' 6 = x6) (e7 : f' 7 = x7) :
    At T ((((((((W.setCell ⟨g, 0, none⟩ (.int .u32 x0)).setCell ⟨g, 1, none⟩ (.int .u32 x1)).setCell ⟨g, 2, none⟩ (.int .u32 x2)).setCell ⟨g, 3, none⟩ (.int .u32 x3)).setCell ⟨g, 4, none⟩ (.int .u32 x4)).setCell ⟨g, 5, none⟩ (.int .u32 x5)).setCell ⟨g, 6, none⟩ (.int .u32 x6)).setCell ⟨g, 7, none⟩ (.int .u32 x7)) g (nums .u32 8 f') := by
  refine ((((((((h.put 0 x0 (by decide)).put 1 x1 (by decide)).put 2 x2 (by decide)).put 3 x3 (by decide)).put 4 x4 (by decide)).put 5 x5 (by decide)).put 6 x6 (by decide)).put 7 x7 (by decide)).like fun j hj => ?_
  have : j = 0 ∨ j = 1 ∨ j = 2 ∨ j = 3 ∨ j = 4 ∨ j = 5 ∨ j = 6 ∨ j = 7 := by omega
  rcases this with rfl | rfl | rfl | rfl | rfl | rfl | rfl | rfl <;> simp [*]
theorem other8 {T : TypeId} {W : World} {b g : Nat} {cs : Array Value} (h : At T W b cs) (hne : b ≠ g) (x0 x1 x2 x3 x4 x5 x6 x7 : Int) :
    At T ((((((((W.setCell ⟨g, 0, none⟩ (.int .u32 x0)).setCell ⟨g, 1, none⟩ (.int .u32 x1)).setCell ⟨g, 2, none⟩ (.int .u32 x2)).setCell ⟨g, 3, none⟩ (.int .u32 x3)).setCell ⟨g, 4, none⟩ (.int .u32 x4)).setCell ⟨g, 5, none⟩ (.int .u32 x5)).setCell ⟨g, 6, none⟩ (.int .u32 x6)).setCell ⟨g, 7, none⟩ (.int .u32 x7)) b cs :=
  (((((((h.other _ hne).other _ hne).other _ hne).other _ hne).other _ hne).other _ hne).other _ hne).other _ hne
theorem below8 {B : Nat} {w W : World} {g : Nat} (h : Below B w W) (hg : B ≤ g) (x0 x1 x2 x3 x4 x5 x6 x7 : Int) :
    Below B w ((((((((W.setCell ⟨g, 0, none⟩ (.int .u32 x0)).setCell ⟨g, 1, none⟩ (.int .u32 x1)).setCell ⟨g, 2, none⟩ (.int .u32 x2)).setCell ⟨g, 3, none⟩ (.int .u32 x3)).setCell ⟨g, 4, none⟩ (.int .u32 x4)).setCell ⟨g, 5, none⟩ (.int .u32 x5)).setCell ⟨g, 6, none⟩ (.int .u32 x6)).setCell ⟨g, 7, none⟩ (.int .u32 x7)) :=
  (((((((h.setCell (p := ⟨g, 0, none⟩) hg _).setCell (p := ⟨g, 1, none⟩) hg _).setCell (p := ⟨g, 2, none⟩) hg _).setCell (p := ⟨g, 3, none⟩) hg _).setCell (p := ⟨g, 4, none⟩) hg _).setCell (p := ⟨g, 5, none⟩) hg _).setCell (p := ⟨g, 6, none⟩) hg _).setCell (p := ⟨g, 7, none⟩) hg _
/-- Cells that lie elsewhere are bytes still. -/
theorem bys_blk_at {B g : Nat} {T : TypeId} {W : World} {cur : Array Value} {M : List Int} (hM : Bytes M) (hg : g < B) (h : At T W g cur) (hc : ∀ j, j < M.length → cur[j]? = some (.int .u8 (M.getD j 0))) (p : Nat) (hp : p + 64 ≤ M.length) (n : Nat) (hn : p = 64 * n) (cap : Nat) :
    Bys8 B W (.slice (some ⟨g, p, none⟩) 64 cap) (blk M n) := by
  subst hn
  refine ⟨blk_bytes hM n, .inr ⟨g, 64 * n, cap, by simp [blk], hg, fun j hj => ?_⟩⟩
  have hj' : j < 64 := by simpa [blk] using hj
  rw [h.cell, hc _ (by omega)]
  simp [blk, List.getD, hj']
end Go.Proofs.YtkhhejkemkldgaaDoor
