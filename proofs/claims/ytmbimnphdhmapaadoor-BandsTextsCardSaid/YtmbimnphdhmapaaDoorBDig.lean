/- The document's digits. -/
import Derived.Test.YtmbimnphdhmapaaDoorBMay
import Derived.Laws.BytesArg
set_option linter.unusedVariables false
set_option linter.unusedSimpArgs false
namespace Go.Proofs.YtmbimnphdhmapaaDoor
open Go.RowKit Go.Shelf
/-- The decimal digits of a number, as bytes. -/
def decL (n : Nat) : List Int := if h : n < 10 then [48 + (n : Int)] else decL (n / 10) ++ [48 + ((n % 10 : Nat) : Int)]
termination_by n
decreasing_by omega
theorem decL_one {n : Nat} (h : n < 10) : decL n = [48 + (n : Int)] := by rw [decL, dif_pos h]
theorem decL_more {n : Nat} (h : ¬ n < 10) : decL n = decL (n / 10) ++ [48 + ((n % 10 : Nat) : Int)] := by rw [decL, dif_neg h]
/-- The digits ahead of the last one. -/
def preL (n : Nat) : List Int := if n < 10 then [] else decL (n / 10)
theorem decL_pre (n : Nat) : decL n = preL n ++ [48 + ((n % 10 : Nat) : Int)] := by
  unfold preL
  by_cases h : n < 10
  · rw [if_pos h, decL_one h, Nat.mod_eq_of_lt h]; rfl
  · rw [if_neg h, decL_more h]
theorem strB_app (xs ys : List Int) : strOfNums xs ++ strOfNums ys = strOfNums (xs ++ ys) := by
  simp [strOfNums, ByteArray.ext_iff]
theorem conv_one (a : Int) (w : World) (B : Nat) (hB : w.heap[B]? = some (.cells #[.int .u8 a] 5 (0, 0))) : (convert 77 9 (.slice (some ⟨B, 0, none⟩) 1 1)).run Tryd.prog w = .ok (.string (strOfNums [a])) w := by
  refine run_convert_bytes_arg w 77 5 Tryd.underlying77 Tryd.underlying5 B 0 1 1 [a] rfl (fun i hi => ?_) 9 Tryd.underlying9
  rw [Nat.zero_add, cell_of_row w B i _ _ _ hB]
  obtain rfl : i = 0 := by simpa using hi
  rfl
set_option maxRecDepth 100000 in
set_option maxHeartbeats 2000000 in
theorem digits_any (n : Nat) (hn : n ≤ 1000000000) (w : World) :
    Calls Tryd.prog 21 #[.int .i64 n] w fun e w' => e = .returned (.string (strOfNums (decL n))) ∧ Below w.heap.size w w' := by
  have hz : (n : Int).tmod 10 = ((n % 10 : Nat) : Int) := by rw [Int.tmod_eq_emod_of_nonneg (by omega)]; omega
  obtain ⟨z, hzz⟩ : ∃ z, n % 10 = z := ⟨_, rfl⟩
  have hz9 : z < 10 := by omega
  rw [hzz] at hz
  have hcv := conv_one (48 + (z : Int)) (w.alloc (.cells #[.int .u8 (48 + (z : Int))] 5)) w.heap.size (heap_alloc_new w _)
  have HB0 := Lib.hid ((Below.refl _ w).alloc (Nat.le_refl _) (.cells #[.int .u8 (48 + (z : Int))] 5))
  have HST := Lib.hid (show decL n = preL n ++ [48 + (z : Int)] by rw [← hzz]; exact decL_pre n)
  clear hzz
  go_enter Tryd.func21, Tryd.ntmps21
  go_wp2
  go_loopw [0, 3] (fun v s wr => ∃ (m : Nat) (S : List Int), v = .int .i64 m ∧ m ≤ 1000000000 ∧ s = .string (strOfNums S) ∧ S.length ≤ 1000000000 - m + 1 ∧ decL n = preL m ++ S ∧ Below w.heap.size w wr) (fun v _ _ => (intOf v).toNat)
  case atStart => exact ⟨n, _, rfl, hn, rfl, by simp, HST.out, HB0.out⟩
  case round =>
    obtain ⟨m, S, rfl, hm, rfl, hS, hpre, hb⟩ := hrel
    have HP := Lib.hid hpre
    have HB := Lib.hid hb
    have hs := hb.size
    clear hpre hb HB0 HST hcv hz
    by_cases h9 : 9 < m
    · have h9i : (9 : Int) < m := by omega
      have q1 : (m : Int).tdiv 10 = ((m / 10 : Nat) : Int) := by rw [Int.tdiv_eq_ediv_of_nonneg (by omega)]; omega
      obtain ⟨d, hd⟩ : ∃ d, m / 10 = d := ⟨_, rfl⟩
      have q2 : (d : Int).tmod 10 = ((d % 10 : Nat) : Int) := by rw [Int.tmod_eq_emod_of_nonneg (by omega)]; omega
      obtain ⟨y, hy⟩ : ∃ y, d % 10 = y := ⟨_, rfl⟩
      have hy9 : y < 10 := by omega
      have hdm : d < m := by omega
      rw [hd] at q1
      rw [hy] at q2
      have hcv := conv_one (48 + (y : Int)) (wr.alloc (.cells #[.int .u8 (48 + (y : Int))] 5)) wr.heap.size (heap_alloc_new wr _)
      have happ : strOfNums [48 + (y : Int)] ++ strOfNums S = strOfNums ((48 + (y : Int)) :: S) := strB_app [_] S
      have hsz1 : (strOfNums [48 + (y : Int)]).size = 1 := by rw [strOfNums_size]; rfl
      have hsz2 : (strOfNums S).size = S.length := strOfNums_size S
      have HN := Lib.hid (show decL n = preL d ++ ((48 + (y : Int)) :: S) by
        rw [HP.out, show preL m = decL d by unfold preL; rw [if_neg (by omega), hd], decL_pre d, hy]; simp)
      have HBA := Lib.hid (HB.out.alloc hs (.cells #[.int .u8 (48 + (y : Int))] 5))
      have HL := Lib.hid (show ((48 + (y : Int)) :: S).length ≤ 1000000000 - d + 1 by simp; omega)
      clear hd hy
      go_wp2
      go_roundw
      case rel => exact ⟨d, _, rfl, by omega, rfl, HL.out, HN.out, HBA.out⟩
      case measure => first | (simp [intOf]; done) | (simp [intOf]; omega)
    · have h9i : ¬ (9 : Int) < m := by omega
      have HE := Lib.hid (show decL n = S by rw [HP.out]; unfold preL; rw [if_pos (by omega)]; rfl)
      go_wp2
      go_ret
      rw [HE.out]
      exact ⟨rfl, HB.out⟩
end Go.Proofs.YtmbimnphdhmapaaDoor
