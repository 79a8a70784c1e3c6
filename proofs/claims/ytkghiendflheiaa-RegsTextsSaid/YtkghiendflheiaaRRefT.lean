/- The document's Text. -/
import Derived.Test.YtkghiendflheiaaRTextW
set_option linter.unusedVariables false
namespace Go.Proofs.Ytkghiendflheiaa
open Go.RowKit Go.Sort
theorem byteZ (s : ByteArray) (k : Nat) (h : k < s.size) : ((s[k].toNat : Int) == 0) = decide (s.data.toList[k]? = some 0) := by
  have h' : k < s.data.size := h
  have e : s.data.toList[k]? = some s[k] := by rw [Array.getElem?_toList, Array.getElem?_eq_getElem h']; rfl
  rw [e]
  generalize s[k] = b
  rw [Bool.eq_iff_iff]
  simp [← UInt8.toNat_inj]
set_option maxHeartbeats 1000000 in
theorem rtext_no (s : ByteArray) (many : Int) (h : ∀ m : Nat, many = m → ¬ textB s m) (w : World) :
    Calls Try.prog 7 #[.string s, .int .i64 many] w (Regs [] 20 w) := by
  by_cases h1 : many < 0
  · clear h
    go_enter Try.func7, Try.ntmps7
    go_wp2
    exact bodyPost_ret (v := .tuple #[.slice none 0 0, .int .i64 20]) (by simp [results, Try.results7, go_sem]) rfl ⟨none, 0, rfl, Own16.nil _ _, Below.refl _ _⟩
  · have d1 : decide (many < 0) = false := by simp; omega
    by_cases h2 : 125 < many
    · clear h h1
      go_enter Try.func7, Try.ntmps7
      go_wp2
      exact bodyPost_ret (v := .tuple #[.slice none 0 0, .int .i64 20]) (by simp [results, Try.results7, go_sem]) rfl ⟨none, 0, rfl, Own16.nil _ _, Below.refl _ _⟩
    · have d2 : decide (125 < many) = false := by simp; omega
      have s1 : IntKind.i64.wrap (2 * many) = 2 * many := IntWalk.i64_in _ (by omega)
      by_cases h3 : 2 * many < (s.size : Int)
      · clear h h1 h2
        go_enter Try.func7, Try.ntmps7
        go_wp2
        exact bodyPost_ret (v := .tuple #[.slice none 0 0, .int .i64 20]) (by simp [results, Try.results7, go_sem]) rfl ⟨none, 0, rfl, Own16.nil _ _, Below.refl _ _⟩
      · have d3 : decide (2 * many < (s.size : Int)) = false := by simp; omega
        obtain ⟨m, rfl⟩ := Int.eq_ofNat_of_zero_le (show 0 ≤ many by omega)
        have h4 : 0 ≤ Lib.indexByte s.data.toList 0 := by
          have := h m rfl
          unfold textB at this
          omega
        obtain ⟨z, hz⟩ := Int.eq_ofNat_of_zero_le h4
        obtain ⟨hz1, hz2⟩ := Lib.indexByte_some hz
        have hzs : z < s.size := by have := (List.getElem?_eq_some_iff.1 hz1).1; simpa using this
        have hsz : s.size ≤ 250 := by omega
        have HZ1 := Lib.hid hz1
        have HZ2 := Lib.hid hz2
        clear h h1 h2 h3 h4 hz hz1 hz2
        go_enter Try.func7, Try.ntmps7
        go_wp2
        go_loopw [6] (fun i wr => ∃ k : Nat, k ≤ z ∧ i = .int .i64 k ∧ wr = w) (fun i _ => s.size - (RowKit.intOf i).toNat)
        case atStart => exact ⟨0, Nat.zero_le _, rfl, rfl⟩
        case round =>
          obtain ⟨k, hk, rfl, rfl⟩ := hrel
          have hlt : k < s.size := by omega
          have hb := byteZ s k hlt
          by_cases hkz : k = z
          · subst hkz
            rw [HZ1.out, decide_eq_true rfl] at hb
            go_wp2
            exact bodyPost_ret (v := .tuple #[.slice none 0 0, .int .i64 20]) (by simp [results, Try.results7, go_sem]) rfl ⟨none, 0, rfl, Own16.nil _ _, Below.refl _ _⟩
          · rw [decide_eq_false (HZ2.out k (by omega))] at hb
            go_wp2
            go_roundw
            case rel => exact ⟨k + 1, by omega, by simp, trivial⟩
            case measure => simp [RowKit.intOf]; omega
end Go.Proofs.Ytkghiendflheiaa
