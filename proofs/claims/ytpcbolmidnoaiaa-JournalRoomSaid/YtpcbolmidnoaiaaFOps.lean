/- isLength, Size, sumOf, bytes.Clone. -/
import Derived.Test.YtpcbolmidnoaiaaFMath
import Derived.Test.YtpcbolmidnoaiaaS8
import Derived.Lib.SliceRun
set_option linter.unusedVariables false
set_option linter.unusedSimpArgs false
namespace Go.Proofs.Ytpcbolmidnoaiaa
open Go.RowKit Go.Shelf
theorem bys_of8 {n₀ : Nat} {W : World} {v : Value} {xs : List Int} (h : Bys8 n₀ W v xs) : Bys n₀ W v xs := h
theorem Bys8.grow {W X : World} {v : Value} {xs : List Int} (h : Bys8 W.heap.size W v xs) (hB : Below W.heap.size W X) : Bys8 X.heap.size X v xs := (h.below hB).mono hB.size
theorem Bys8.from {n : Nat} {w W : World} {v : Value} {xs : List Int} (h : Bys8 n w v xs) (hB : Below n w W) (hn : n ≤ w.heap.size) : Bys8 W.heap.size W v xs := (h.below hB).mono (Nat.le_trans hn hB.size)
def isLen (n : Nat) : Bool := decide (1 ≤ n ∧ n ≤ 4096)
theorem isLen_yes {n : Nat} (h : 1 ≤ n ∧ n ≤ 4096) : isLen n = true := by unfold isLen; exact decide_eq_true h
theorem isLen_no {n : Nat} (h : ¬ (1 ≤ n ∧ n ≤ 4096)) : isLen n = false := by unfold isLen; exact decide_eq_false h
theorem isLength_any (n : Nat) (w : World) : Calls Try.prog 49 #[.int .i64 (n : Int)] w fun e w' => e = .returned (.bool (isLen n)) ∧ w = w' := by
  by_cases h1 : 1 ≤ n
  · have i1 : (1 : Int) ≤ n := by omega
    by_cases h2 : n ≤ 4096
    · have i2 : (n : Int) ≤ 4096 := by omega
      have HE := Lib.hid (isLen_yes ⟨h1, h2⟩)
      clear h1 h2
      go_enter Try.func49, Try.ntmps49
      go_wp2
      go_ret
      exact ⟨by rw [HE.out]; rfl, rfl⟩
    · have i2 : ¬ (n : Int) ≤ 4096 := by omega
      have HE := Lib.hid (isLen_no (n := n) (by omega))
      clear h1 h2
      go_enter Try.func49, Try.ntmps49
      go_wp2
      go_ret
      exact ⟨by rw [HE.out]; rfl, rfl⟩
  · have i1 : ¬ (1 : Int) ≤ n := by omega
    have HE := Lib.hid (isLen_no (n := n) (by omega))
    clear h1
    go_enter Try.func49, Try.ntmps49
    go_wp2
    go_ret
    exact ⟨by rw [HE.out]; rfl, rfl⟩
def sizeE (n : Nat) : Nat := if 1 ≤ n ∧ n ≤ 4096 then 6 + n else 0
theorem size_any (a : Option Addr) (n c : Nat) (w : World) : Calls Try.prog 31 #[.slice a n c] w fun e w' => e = .returned (.int .i64 (sizeE n : Nat)) ∧ w = w' := by
  have hL := isLength_any n w
  by_cases h : 1 ≤ n ∧ n ≤ 4096
  · rw [isLen_yes h] at hL
    have HE := Lib.hid (show ((sizeE n : Nat) : Int) = 6 + (n : Int) by unfold sizeE; rw [if_pos h]; omega)
    have wk : wrap64 (6 + (n : Int)) = 6 + (n : Int) := by unfold wrap64; omega
    have HL := Lib.hid hL
    clear hL h
    go_enter Try.func31, Try.ntmps31
    go_wp2_with (refine HL.out.mono ?_; rintro e w' ⟨rfl, rfl⟩)
    go_ret
    exact ⟨by rw [HE.out]; show Ending.returned (.int .i64 (wrap64 (6 + (n : Int)))) = _; rw [wk], rfl⟩
  · rw [isLen_no h] at hL
    have HE := Lib.hid (show ((sizeE n : Nat) : Int) = 0 by unfold sizeE; rw [if_neg h]; rfl)
    have HL := Lib.hid hL
    clear hL h
    go_enter Try.func31, Try.ntmps31
    go_wp2_with (refine HL.out.mono ?_; rintro e w' ⟨rfl, rfl⟩)
    go_ret
    exact ⟨by rw [HE.out]; rfl, rfl⟩
theorem sumOf_any (a : Option Addr) (n c : Nat) (xs : List Int) (b : Option Addr) (m d : Nat) (ys : List Int) (w : World) (hx : Bys w.heap.size w (.slice a n c) xs) (hy : Bys w.heap.size w (.slice b m d) ys) (l1 : xs.length ≤ 1000000) (l2 : ys.length ≤ 1000000) :
    Calls Try.prog 65 #[.slice a n c, .slice b m d] w fun e w' => e = .returned (.int .u32 (sum32 0 (xs ++ ys) : Nat)) ∧ Below w.heap.size w w' := by
  have h1 := sum32_any a n c xs (by omega) w hx
  have h2 := fun w' (hb : Below w.heap.size w w') => more32_any (sum32 0 xs) (sum32_lt 0 xs (by decide)) b m d ys (by omega) w' ((hy.below hb).mono hb.size)
  rw [sum32_app]
  generalize sum32 0 xs = s at *
  have H1 := Lib.hid h1
  have H2 := Lib.hid h2
  clear hx hy l1 l2 h1 h2
  go_enter Try.func65, Try.ntmps65
  go_wp2_with (first
    | (go_at_call 78; refine H1.out.mono ?_; rintro e w1 ⟨rfl, hB1⟩)
    | (go_at_call 77; refine (H2.out w1 hB1).mono ?_; rintro e w2 ⟨rfl, hB2⟩))
  go_ret
  exact ⟨rfl, hB1.trans (hB2.mono hB1.size)⟩
/-- The call returns the bytes zs in memory of its own, and nothing that was there has changed. -/
def Made (zs : List Int) (w : World) (e : Ending) (w' : World) : Prop := ∃ a c, e = .returned (.slice a zs.length c) ∧ Own8 w.heap.size w' (.slice a zs.length c) zs ∧ Below w.heap.size w w'
theorem Made.lift {zs : List Int} {w w1 w' : World} {e : Ending} (h : Made zs w1 e w') (hb : Below w.heap.size w w1) : Made zs w e w' := by
  obtain ⟨a, c, he, hO, hB⟩ := h
  exact ⟨a, c, he, hO.le hb.size, hb.trans (hB.mono hb.size)⟩
set_option maxHeartbeats 1000000 in
theorem clone_any {B : Nat} (a : Option Addr) (n c : Nat) (xs : List Int) (w : World) (hI : Bys8 B w (.slice a n c) xs) (hB : B ≤ w.heap.size) (hl : xs.length ≤ 1000000) :
    Calls Try.prog 32 #[.slice a n c] w (Made xs w) := by
  rcases a with _ | ad
  · obtain ⟨hr, ⟨rfl, a', cap, e⟩ | ⟨b, off, cap, e, _⟩⟩ := hI
    · cases e
      have hq := fun w => Lib.run_eql_slice_nil (P := Try.prog) w 23 5 none 0 c 0 0 Try.underlying23
      go_enter Try.func32, Try.ntmps32
      go_wp2
      exact bodyPost_ret (v := .slice none 0 0) (by simp [results, Try.results32, go_sem]) rfl ⟨none, 0, rfl, Own8.nil _ _, Below.refl _ _⟩
    · cases e
  · have hO := Own8.empty w
    have hB1 : Below w.heap.size w (w.alloc (.cells #[] 5)) := (Below.refl _ _).alloc (Nat.le_refl _) _
    have hb1 : Below B w (w.alloc (.cells #[] 5)) := hB1.mono hB
    have hq := fun w => Lib.run_eql_slice_nil (P := Try.prog) w 23 5 (some ad) n c 0 0 Try.underlying23
    go_enter Try.func32, Try.ntmps32
    go_wp2_with (at_builtin; refine wpList_bapp8 rfl (.tmp 5) (.tmp 6) rfl w.heap.size _ [] rfl hO B (some ad) n c xs rfl (hI.below hb1) (by simp; omega) (by simp) ?_; intro a2 c2' w2 hO2 hB2)
    exact bodyPost_ret (v := .slice a2 xs.length c2') (by simp [results, Try.results32, go_sem]) rfl ⟨a2, c2', rfl, by simpa using hO2, hB1.trans hB2⟩
/-- Appending, the length told by a number of one's own. -/
theorem bapp8N {w : World} {ops : Array Oper} {rest : List Oper} {o : Oper} {a : Act} {Q : Exit → Act → World → Prop} (hgd : o.guard = none) (s x : Operand)
    (ho : o.op = .call { callee := .builtin .append, args := #[s, x], argTypes := #[23, 23] })
    (base : Nat) (v : Value) (ys : List Int) (hs : a.eval s = v) (hown : Own8 base w v ys) (B : Nat) (A : Option Addr) (m c : Nat) (xs : List Int) (hx : a.eval x = .slice A m c) (hb : Bys8 B w (.slice A m c) xs)
    (N : Nat) (hN : (ys ++ xs).length = N) (hlen : N ≤ 10000000000000) (hbase : base ≤ w.heap.size)
    (h : ∀ a' c' w', Own8 base w' (.slice a' N c') (ys ++ xs) → Below base w w' → wpList Try.prog ops Q rest (a.put o.dst (.slice a' N c')) w') : wpList Try.prog ops Q (o :: rest) a w := by
  subst hN
  exact wpList_bapp8 hgd s x ho base v ys hs hown B A m c xs hx hb (by rw [← List.length_append]; exact hlen) hbase h
end Go.Proofs.Ytpcbolmidnoaiaa
