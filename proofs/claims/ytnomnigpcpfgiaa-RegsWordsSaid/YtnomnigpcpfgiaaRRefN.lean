/- The document's Words, refused; the document's Value. -/
import Derived.Test.YtnomnigpcpfgiaaRRefW
import Derived.Test.YtnomnigpcpfgiaaRBackWalk
set_option linter.unusedVariables false
namespace Go.Proofs.Ytnomnigpcpfgiaa
open Go.RowKit Go.Sort
theorem rwords_no (v : Nat) (hv : v < 18446744073709551616) (many o : Int) (h : ∀ m : Nat, many = m → fitsB v m → ¬ okO o) (w : World) :
    Calls Try.prog 11 #[.int .u64 v, .int .i64 many, .int .i64 o] w (Regs [] 20 w) := by
  cases hl : lenB many with
  | false =>
    have hmay := may_no many hl w
    clear h hl
    go_enter Try.func11, Try.ntmps11
    go_wp2_with fail
    refine hmay.mono ?_
    rintro e _ ⟨rfl, rfl⟩
    go_wp2
    exact bodyPost_ret (v := .tuple #[.slice none 0 0, .int .i64 20]) (by simp [results, Try.results11, go_sem]) rfl ⟨none, 0, rfl, Own16.nil _ _, Below.refl _ _⟩
  | true =>
    obtain ⟨m, rfl, hm⟩ : ∃ m : Nat, many = m ∧ (m = 1 ∨ m = 2 ∨ m = 4) := by
      rcases len_yes hl with rfl | rfl | rfl
      · exact ⟨1, rfl, by omega⟩
      · exact ⟨2, rfl, by omega⟩
      · exact ⟨4, rfl, by omega⟩
    have hmay := may_any m hm w
    by_cases hf : fitsB v m
    · have ho := h m rfl hf
      have hrf := rfits_yes v m hf w
      by_cases h1 : o < 1
      · have hlo : decide (o < 1) = true := by simp; omega
        clear h hl hm hf ho
        go_enter Try.func11, Try.ntmps11
        go_wp2_with fail
        refine hmay.mono ?_
        rintro e _ ⟨rfl, rfl⟩
        go_wp2_with fail
        refine hrf.mono ?_
        rintro e _ ⟨rfl, rfl⟩
        go_wp2
        exact bodyPost_ret (v := .tuple #[.slice none 0 0, .int .i64 20]) (by simp [results, Try.results11, go_sem]) rfl ⟨none, 0, rfl, Own16.nil _ _, Below.refl _ _⟩
      · have h4 : 4 < o := by unfold okO at ho; omega
        have hlo : decide (o < 1) = false := by simp; omega
        have hhi : decide (4 < o) = true := by simp; omega
        have h1' : 1 ≤ o := by omega
        clear h hl hm hf ho h1
        go_enter Try.func11, Try.ntmps11
        go_wp2_with fail
        refine hmay.mono ?_
        rintro e _ ⟨rfl, rfl⟩
        go_wp2_with fail
        refine hrf.mono ?_
        rintro e _ ⟨rfl, rfl⟩
        go_wp2
        exact bodyPost_ret (v := .tuple #[.slice none 0 0, .int .i64 20]) (by simp [results, Try.results11, go_sem]) rfl ⟨none, 0, rfl, Own16.nil _ _, Below.refl _ _⟩
    · have hrf := rfits_no v m hm hv hf w
      clear h hl hm hf
      go_enter Try.func11, Try.ntmps11
      go_wp2_with fail
      refine hmay.mono ?_
      rintro e _ ⟨rfl, rfl⟩
      go_wp2_with fail
      refine hrf.mono ?_
      rintro e _ ⟨rfl, rfl⟩
      go_wp2
      exact bodyPost_ret (v := .tuple #[.slice none 0 0, .int .i64 20]) (by simp [results, Try.results11, go_sem]) rfl ⟨none, 0, rfl, Own16.nil _ _, Below.refl _ _⟩
theorem rvalue_no (a : Option Addr) (n c : Nat) (o : Int) (h : (n = 1 ∨ n = 2 ∨ n = 4) → ¬ okO o) (w : World) :
    Calls Try.prog 13 #[.slice a n c, .int .i64 o] w (Num 0 20 w) := by
  by_cases hm : n = 1 ∨ n = 2 ∨ n = 4
  · have ho := h hm
    have hmay := may_any n hm w
    by_cases h1 : o < 1
    · have hlo : decide (o < 1) = true := by simp; omega
      clear h hm ho
      go_enter Try.func13, Try.ntmps13
      go_wp2_with fail
      refine hmay.mono ?_
      rintro e _ ⟨rfl, rfl⟩
      go_wp2
      exact bodyPost_ret (v := .tuple #[.int .u64 0, .int .i64 20]) (by simp [results, Try.results13, go_sem]) rfl ⟨rfl, Below.refl _ _⟩
    · have h4 : 4 < o := by unfold okO at ho; omega
      have hlo : decide (o < 1) = false := by simp; omega
      have hhi : decide (4 < o) = true := by simp; omega
      have h1' : 1 ≤ o := by omega
      clear h hm ho h1
      go_enter Try.func13, Try.ntmps13
      go_wp2_with fail
      refine hmay.mono ?_
      rintro e _ ⟨rfl, rfl⟩
      go_wp2
      exact bodyPost_ret (v := .tuple #[.int .u64 0, .int .i64 20]) (by simp [results, Try.results13, go_sem]) rfl ⟨rfl, Below.refl _ _⟩
  · have hl : lenB (n : Int) = false := by
      unfold lenB
      have h1 : ¬ (n : Int) = 1 := by omega
      have h2 : ¬ (n : Int) = 2 := by omega
      have h4 : ¬ (n : Int) = 4 := by omega
      simp [h1, h2, h4]
    have hmay := may_no n hl w
    clear h hm hl
    go_enter Try.func13, Try.ntmps13
    go_wp2_with fail
    refine hmay.mono ?_
    rintro e _ ⟨rfl, rfl⟩
    go_wp2
    exact bodyPost_ret (v := .tuple #[.int .u64 0, .int .i64 20]) (by simp [results, Try.results13, go_sem]) rfl ⟨rfl, Below.refl _ _⟩
end Go.Proofs.Ytnomnigpcpfgiaa
