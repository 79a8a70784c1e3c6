/- The document's digits, line and Text. -/
import Derived.Test.YthlpigffjbhmoaaDoorEFew
import Derived.Test.YthlpigffjbhmoaaDoorVRef1
import Derived.Laws.BytesArg
set_option linter.unusedVariables false
set_option linter.unusedSimpArgs false
namespace Go.Proofs.YthlpigffjbhmoaaDoor
open Go.RowKit Go.Shelf
def dg (z : Nat) : UInt8 := UInt8.ofNat (48 + z)
theorem conv_one (z : Nat) (hz : z < 10) (w : World) (B : Nat) (hB : w.heap[B]? = some (.cells #[.int .u8 (48 + (z : Int))] 5 (0, 0))) : (convert 53 9 (.slice (some ⟨B, 0, none⟩) 1 1)).run Tryd.prog w = .ok (strL [dg z]) w := by
  have h := run_convert_bytes_arg w 53 5 Tryd.underlying53 Tryd.underlying5 B 0 1 1 [48 + (z : Int)] rfl (fun i hi => by
    rw [Nat.zero_add, cell_of_row w B i _ _ _ hB]
    obtain rfl : i = 0 := by simpa using hi
    rfl) 9 Tryd.underlying9
  rw [h]
  rfl
/-- The digits that are still to come. -/
def hd (m : Nat) (S : List UInt8) : List UInt8 := if m = 0 ∧ S ≠ [] then [] else Lib.decDigits m
theorem hd_step {m : Nat} {S : List UInt8} (h : ¬ (m = 0 ∧ S ≠ [])) : hd m S ++ S = hd (m / 10) (dg (m % 10) :: S) ++ (dg (m % 10) :: S) := by
  unfold hd
  rw [if_neg h]
  by_cases h10 : m < 10
  · rw [if_pos ⟨by omega, by simp⟩, dec_one h10, Nat.mod_eq_of_lt h10]; rfl
  · rw [if_neg (by omega), dec_more h10]
    simp [dg]
set_option maxRecDepth 100000 in
set_option maxHeartbeats 2000000 in
theorem rdigits_any (n : Nat) (hn : n < 10000000000000) (w : World) :
    Calls Tryd.prog 41 #[.int .i64 n] w fun e w' => e = .returned (strL (Lib.itoa n)) ∧ Below w.heap.size w w' := by
  rw [Lib.itoa_nonneg]
  go_enter Tryd.func41, Tryd.ntmps41
  go_wp2
  go_loopw [0, 3, 4] (fun v s i wr => ∃ (m k e : Nat) (S : List UInt8), v = .int .i64 m ∧ i = .int .i64 k ∧ s = strL S ∧ k + e = 13 ∧ m < 10 ^ e ∧ S.length = k ∧ Lib.decDigits n = hd m S ++ S ∧ Below w.heap.size w wr) (fun _ _ i _ => (20 - intOf i).toNat)
  case atStart => exact ⟨n, 0, 13, [], rfl, rfl, rfl, rfl, hn, rfl, by unfold hd; rw [if_neg (by simp)]; simp, Below.refl _ _⟩
  case round =>
    obtain ⟨m, k, e, S, rfl, rfl, rfl, hke, hme, hSk, hpre, hb⟩ := hrel
    have HB := Lib.hid hb
    have hs := hb.size
    have HP := Lib.hid hpre
    clear hpre hb
    have hm13 : m < 10000000000000 := Nat.lt_of_lt_of_le hme (show 10 ^ e ≤ 10 ^ 13 from Nat.pow_le_pow_right (by omega) (by omega))
    by_cases hgo : ¬ (m = 0 ∧ S ≠ [])
    · have hk13 : k < 13 := by
        rcases Nat.lt_or_ge k 13 with q | q
        · exact q
        · have : e = 0 := by omega
          subst this
          have hm0 : m = 0 := by simpa using hme
          have hS0 : S = [] := by
            cases S with
            | nil => rfl
            | cons c r => exact absurd ⟨hm0, by simp⟩ hgo
          subst hS0
          simp at hSk
          omega
      obtain ⟨e', rfl⟩ : ∃ e', e = e' + 1 := ⟨e - 1, by omega⟩
      have hdiv : m / 10 < 10 ^ e' := Nat.div_lt_of_lt_mul (by rw [Nat.pow_succ] at hme; omega)
      have HN := Lib.hid (show Lib.decDigits n = hd (m / 10) (dg (m % 10) :: S) ++ (dg (m % 10) :: S) by rw [HP.out]; exact hd_step hgo)
      have q1 : (m : Int).tdiv 10 = ((m / 10 : Nat) : Int) := by rw [Int.tdiv_eq_ediv_of_nonneg (by omega)]; omega
      have q2 : (m : Int).tmod 10 = ((m % 10 : Nat) : Int) := by rw [Int.tmod_eq_emod_of_nonneg (by omega)]; omega
      have hdb : m / 10 ≤ m := Nat.div_le_self _ _
      have hz9 : m % 10 < 10 := Nat.mod_lt _ (by omega)
      obtain ⟨d, hd'⟩ : ∃ d, m / 10 = d := ⟨_, rfl⟩
      obtain ⟨z, hz'⟩ : ∃ z, m % 10 = z := ⟨_, rfl⟩
      rw [hd'] at HN q1 hdiv hdb
      rw [hz'] at HN q2 hz9
      have hcv := conv_one z hz9 (wr.alloc (.cells #[.int .u8 (48 + (z : Int))] 5)) wr.heap.size (heap_alloc_new wr _)
      have happ : (⟨[dg z].toArray⟩ : ByteArray) ++ ⟨S.toArray⟩ = ⟨(dg z :: S).toArray⟩ := str_cat [dg z] S
      have HBA := Lib.hid (HB.out.alloc hs (.cells #[.int .u8 (48 + (z : Int))] 5))
      have h20 : (k : Int) < 20 := by omega
      have HME := Lib.hid hdiv
      have HSL := Lib.hid (show (dg z :: S).length = k + 1 by simp [hSk])
      by_cases hm0 : 0 < m
      · have hmi : (0 : Int) < m := by omega
        clear hd' hz' hgo hme hdiv
        go_wp2
        go_roundw
        case rel => exact ⟨d, k + 1, e', dg z :: S, rfl, by go_num, rfl, by omega, HME.out, HSL.out, HN.out, HBA.out⟩
        case measure => first | (simp [intOf]; done) | (simp [intOf]; omega)
      · have hm00 : m = 0 := by omega
        have hS0 : S = [] := by
          cases S with
          | nil => rfl
          | cons c r => exact absurd ⟨hm00, by simp⟩ hgo
        subst hS0
        have hz0 : z = 0 := by rw [← hz', hm00]
        have hd0 : d = 0 := by rw [← hd', hm00]
        clear hd' hz' hgo hme hdiv hm0 hm13 hdb hcv happ q1 q2 hz9
        subst hm00
        subst hz0
        subst hd0
        have hcv : (convert 53 9 (.slice (some ⟨wr.heap.size, 0, none⟩) 1 1)).run Tryd.prog (wr.alloc (.cells #[.int .u8 48] 5)) = .ok (strL [dg 0]) (wr.alloc (.cells #[.int .u8 48] 5)) := conv_one 0 (by omega) _ _ (heap_alloc_new wr _)
        have happ : (⟨[dg 0].toArray⟩ : ByteArray) ++ ⟨#[]⟩ = ⟨[dg 0].toArray⟩ := str_cat [dg 0] []
        go_wp2
        go_roundw
        case rel => exact ⟨0, k + 1, e', [dg 0], rfl, by go_num, rfl, by omega, HME.out, HSL.out, HN.out, HBA.out⟩
        case measure => first | (simp [intOf]; done) | (simp [intOf]; omega)
    · obtain ⟨hm0, hS⟩ : m = 0 ∧ S ≠ [] := Classical.not_not.1 hgo
      have HE := Lib.hid (show Lib.decDigits n = S by rw [HP.out]; unfold hd; rw [if_pos ⟨hm0, hS⟩]; rfl)
      subst hm0
      obtain ⟨c, r, rfl⟩ : ∃ c r, S = c :: r := by
        cases S with
        | nil => exact absurd rfl hS
        | cons c r => exact ⟨c, r, rfl⟩
      have hkk : k ≤ 13 := by omega
      have hne' : ¬ ((⟨(c :: r).toArray⟩ : ByteArray) = ⟨#[]⟩) := fun e => by
        have := congrArg (fun b : ByteArray => b.data.toList) e
        simp at this
      have hne : decide ((⟨(c :: r).toArray⟩ : ByteArray) = ⟨#[]⟩) = false := decide_eq_false hne'
      have h20 : (k : Int) < 20 := by omega
      clear hgo hS
      go_wp2
      go_ret
      rw [HE.out]
      exact ⟨rfl, HB.out⟩
end Go.Proofs.YthlpigffjbhmoaaDoor
