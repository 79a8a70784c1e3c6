/- Texts of a shape, as numbers: what of a text is read, and when it has the shape. -/
import Derived.Test.YtjlejpenegjbcaaDoorKDig
import Derived.Laws.RangeAny
import Derived.Lib.OthersKept
set_option linter.unusedVariables false
namespace Go.Proofs.YtjlejpenegjbcaaDoor
open Go.RowKit Go.Shelf
def strB (s : ByteArray) : List Int := s.data.toList.map fun x => (x.toNat : Int)
theorem strB_length (s : ByteArray) : (strB s).length = s.size := by simp [strB]
def bt (s : ByteArray) (i : Nat) : Int := (strB s).getD i 0
theorem bt_at (s : ByteArray) (i : Nat) (h : i < s.size) : bt s i = ((s[i]'h).toNat : Int) := by
  have h2 : i < s.data.size := h
  unfold bt strB
  rw [List.getD, List.getElem?_map, show s.data.toList[i]? = some (s.data[i]'h2) from by simp]
  rfl
theorem bt_bd (s : ByteArray) (i : Nat) : 0 ≤ bt s i ∧ bt s i < 256 := by
  by_cases h : i < s.size
  · rw [bt_at s i h]; have := (s[i]'h).toNat_lt; omega
  · unfold bt; rw [List.getD, List.getElem?_eq_none (by rw [strB_length]; omega)]; simp
theorem idx_str (s : ByteArray) (i : Nat) (h : i < s.size) (w : World) : (Instr.index 9 (.string s) (.int .i64 (i : Int))).run Tryd.prog w = .ok (.int .u8 (bt s i)) w := by
  rw [run_index_string _ _ _ _ _ Tryd.underlying9, dif_pos ⟨by omega, by omega⟩, bt_at s i h]
  simp only [Int.toNat_natCast]
theorem strOf_strB (s : ByteArray) : strOfNums (strB s) = s := by
  unfold strB
  rw [← nums_of_u8]
theorem strB_strOf (xs : List Int) (h : ∀ x ∈ xs, 0 ≤ x ∧ x < 256) : strB (strOfNums xs) = xs := by
  unfold strB strOfNums
  simp only [List.map_map]
  conv => rhs; rw [← List.map_id xs]
  refine List.map_congr_left fun x hx => ?_
  have := h x hx
  simp only [Function.comp, id, UInt8.toNat_ofNat']
  omega
/-- The place of the number that byte k of a shape belongs to, and how many of its digits come ahead. -/
def plc (fs : List Int) : Nat → Nat
  | 0 => 0
  | k + 1 => if fs.getD k 0 = 48 then plc fs k else plc fs k + 1
def cnt (fs : List Int) : Nat → Nat
  | 0 => 0
  | k + 1 => if fs.getD k 0 = 48 then cnt fs k + 1 else 0
def num (fs xs : List Int) : Nat → Nat → Int
  | 0, _ => 0
  | k + 1, j => if fs.getD k 0 = 48 ∧ j = plc fs k then 10 * num fs xs k j + (xs.getD k 0 - 48) else num fs xs k j
def okAt (fs xs : List Int) (i : Nat) : Prop := if fs.getD i 0 = 48 then 48 ≤ xs.getD i 0 ∧ xs.getD i 0 ≤ 57 else xs.getD i 0 = fs.getD i 0
instance (fs xs : List Int) (i : Nat) : Decidable (okAt fs xs i) := by unfold okAt; infer_instance
def Fits (fs xs : List Int) : Prop := xs.length = fs.length ∧ ∀ i, i < fs.length → okAt fs xs i
instance (fs xs : List Int) : Decidable (Fits fs xs) := by unfold Fits; infer_instance
def ShapeOk (fs : List Int) : Prop := ∀ k, k < fs.length → (0 ≤ fs.getD k 0 ∧ fs.getD k 0 < 128) ∧ (fs.getD k 0 = 48 → plc fs k ≤ 5 ∧ cnt fs k ≤ 3)
instance (fs : List Int) : Decidable (ShapeOk fs) := by unfold ShapeOk; infer_instance
theorem num_bd (fs xs : List Int) : ∀ k, (∀ i, i < k → okAt fs xs i) → (∀ j, plc fs k < j → num fs xs k j = 0) ∧ 0 ≤ num fs xs k (plc fs k) ∧ num fs xs k (plc fs k) < 10 ^ cnt fs k
  | 0, _ => ⟨fun _ _ => rfl, by simp [num], by simp [num, cnt]⟩
  | k + 1, h => by
    obtain ⟨h1, h2, h3⟩ := num_bd fs xs k (fun i hi => h i (by omega))
    have hk := h k (by omega)
    unfold okAt at hk
    by_cases c : fs.getD k 0 = 48
    · rw [if_pos c] at hk
      have ep : plc fs (k + 1) = plc fs k := by simp only [plc]; rw [if_pos c]
      have ec : cnt fs (k + 1) = cnt fs k + 1 := by simp only [cnt]; rw [if_pos c]
      have en : num fs xs (k + 1) (plc fs k) = 10 * num fs xs k (plc fs k) + (xs.getD k 0 - 48) := by simp only [num]; rw [if_pos ⟨c, trivial⟩]
      rw [ep, ec, en]
      refine ⟨fun j hj => ?_, by omega, ?_⟩
      · simp only [num]; rw [if_neg (by omega)]; exact h1 j hj
      · rw [Int.pow_succ]; omega
    · have ep : plc fs (k + 1) = plc fs k + 1 := by simp only [plc]; rw [if_neg c]
      have ec : cnt fs (k + 1) = 0 := by simp only [cnt]; rw [if_neg c]
      have en : ∀ j, num fs xs (k + 1) j = num fs xs k j := fun j => by simp only [num]; rw [if_neg (fun hc => c hc.1)]
      rw [ep, ec, en, h1 _ (by omega)]
      exact ⟨fun j hj => by rw [en]; exact h1 j (by omega), by simp, by simp⟩
theorem num_small {fs xs : List Int} (hs : ShapeOk fs) {k : Nat} (hk : k < fs.length) (h : ∀ i, i < k → okAt fs xs i) (c : fs.getD k 0 = 48) : plc fs k ≤ 5 ∧ 0 ≤ num fs xs k (plc fs k) ∧ num fs xs k (plc fs k) < 1000 := by
  obtain ⟨_, h2, h3⟩ := num_bd fs xs k h
  obtain ⟨h4, h5⟩ := (hs k hk).2 c
  refine ⟨h4, h2, ?_⟩
  have h6 : cnt fs k = 0 ∨ cnt fs k = 1 ∨ cnt fs k = 2 ∨ cnt fs k = 3 := by omega
  rcases h6 with e | e | e | e <;> rw [e] at h3 <;> omega
theorem plc_le (fs : List Int) : ∀ k, plc fs k ≤ k
  | 0 => Nat.le_refl _
  | k + 1 => by have := plc_le fs k; simp only [plc]; split <;> omega
def dateF : List Int := [48, 48, 48, 48, 45, 48, 48, 45, 48, 48]
def momF : List Int := [48, 48, 48, 48, 45, 48, 48, 45, 48, 48, 84, 48, 48, 58, 48, 48, 58, 48, 48]
theorem dateF_ok : ShapeOk dateF := by decide
theorem momF_ok : ShapeOk momF := by decide
end Go.Proofs.YtjlejpenegjbcaaDoor
