/- Text of the program: the registers of a text. -/
import Derived.Test.YtkghiendflheiaaRText
import Derived.Test.YtkghiendflheiaaRRefW
set_option linter.unusedVariables false
namespace Go.Proofs.Ytkghiendflheiaa
open Go.RowKit Go.Sort
/-- The bytes of a text. -/
def strB (s : ByteArray) : List Int := s.data.toList.map fun x => (x.toNat : Int)
theorem strB_len (s : ByteArray) : (strB s).length = s.size := by simp [strB]
theorem strB_bd (s : ByteArray) (j : Nat) : 0 ≤ (strB s).getD j 0 ∧ (strB s).getD j 0 < 256 := by
  by_cases h : j < s.data.toList.length
  · have h' : j < s.data.size := by simpa using h
    have : (strB s).getD j 0 = ((s.data.toList[j]).toNat : Int) := by simp [strB, List.getD]; rw [Array.getElem?_eq_getElem h']; rfl
    rw [this]
    have := (s.data.toList[j]).toNat_lt
    omega
  · have : (strB s).getD j 0 = 0 := by simp at h; simp [strB, List.getD, h]
    omega
/-- The bytes of a text, and zeros behind it, 2 * m in all. -/
def padL (s : ByteArray) (m : Nat) : List Int := (List.range (2 * m)).map fun j => (strB s).getD j 0
def textB (s : ByteArray) (m : Nat) : Prop := m ≤ 125 ∧ s.size ≤ 2 * m ∧ Lib.indexByte s.data.toList 0 < 0
theorem Row8.setCells {g n : Nat} : ∀ (xs : List Int) (o : Nat) (f : Nat → Int) (w : World), Row8 g n f w → Row8 g n (fun j => if o ≤ j ∧ j < o + xs.length then xs.getD (j - o) 0 else f j) (w.setCells g o (xs.map (Value.int .u8)))
  | [], o, f, w, h => h.congr (by intro j hj; rw [if_neg (by simp)])
  | x :: xs, o, f, w, h => by
    have := Row8.setCells xs (o + 1) _ _ (h.set o x)
    refine this.congr ?_
    intro j hj
    simp only [List.length_cons]
    by_cases h1 : j = o
    · subst h1
      rw [if_neg (by omega), if_pos rfl, if_pos (by omega)]
      simp
    · by_cases h2 : o + 1 ≤ j ∧ j < o + 1 + xs.length
      · rw [if_pos h2, if_pos (by omega), show j - o = j - (o + 1) + 1 by omega]
        simp
      · rw [if_neg h2, if_neg h1, if_neg (by omega)]
theorem size8 (w : World) : (Go.sizeOf 5).run Try.prog w = .ok 1 w := by kernel_rfl
theorem wpList_copystr {w : World} {ops : Array Oper} {rest : List Oper} {o : Oper} {a : Act} {Q : Exit → Act → World → Prop} (hgd : o.guard = none) (d x : Operand)
    (ho : o.op = .call { callee := .builtin .copy, args := #[d, x], argTypes := #[23, 9] })
    (b dLen dCap : Nat) (hd : a.eval d = .slice (some ⟨b, 0, none⟩) dLen dCap) (t : ByteArray) (hx : a.eval x = .string t) (hle : t.size ≤ dLen)
    (hc : ∀ j, j < t.size → (w.cell? ⟨b, 0 + j, none⟩).isSome = true) (hf : ∀ j, j < t.size → w.frozen? ⟨b, 0 + j, none⟩ = false)
    (h : wpList Try.prog ops Q rest (a.put o.dst (goInt t.size)) (w.setCells b 0 ((strB t).map (Value.int .u8)))) : wpList Try.prog ops Q (o :: rest) a w := by
  refine wpList_plain hgd fun K hK => ?_
  have hrun := run_copy_string (P := Try.prog) w 23 9 o.type 5 b 0 dLen dCap t Try.underlying23 size8 hle hc hf
  have e : (strB t).map (Value.int .u8) = t.data.toList.map fun x => Value.int .u8 (x.toNat : Int) := by simp [strB]
  rw [e] at h
  unfold Oper.wp execOp
  simp only [ho, resolve, invoke, builtin, Sem.run_bind, Sem.run_pure, Result.andThen_ok, List.map_toArray, List.map_cons, List.map_nil, hd, hx, hrun]
  exact hK _ _ h
theorem text_no (s : ByteArray) (many : Int) (h : ∀ m : Nat, many = m → ¬ textB s m) (w : World) :
    Calls Try.prog 6 #[.string s, .int .i64 many] w (Regs [] 20 w) := by
  have hix := index_any s 0 w
  by_cases h1 : many < 0
  · clear hix h
    go_enter Try.func6, Try.ntmps6
    go_wp2
    exact bodyPost_ret (v := .tuple #[.slice none 0 0, .int .i64 20]) (by simp [results, Try.results6, go_sem]) rfl ⟨none, 0, rfl, Own16.nil _ _, Below.refl _ _⟩
  · have d1 : decide (many < 0) = false := by simp; omega
    by_cases h2 : 125 < many
    · clear hix h h1
      go_enter Try.func6, Try.ntmps6
      go_wp2
      exact bodyPost_ret (v := .tuple #[.slice none 0 0, .int .i64 20]) (by simp [results, Try.results6, go_sem]) rfl ⟨none, 0, rfl, Own16.nil _ _, Below.refl _ _⟩
    · have d2 : decide (125 < many) = false := by simp; omega
      have s1 : IntKind.i64.wrap (2 * many) = 2 * many := IntWalk.i64_in _ (by omega)
      by_cases h3 : 2 * many < (s.size : Int)
      · clear hix h h1 h2
        go_enter Try.func6, Try.ntmps6
        go_wp2
        exact bodyPost_ret (v := .tuple #[.slice none 0 0, .int .i64 20]) (by simp [results, Try.results6, go_sem]) rfl ⟨none, 0, rfl, Own16.nil _ _, Below.refl _ _⟩
      · have d3 : decide (2 * many < (s.size : Int)) = false := by simp; omega
        obtain ⟨m, rfl⟩ := Int.eq_ofNat_of_zero_le (show 0 ≤ many by omega)
        have h4 : 0 ≤ Lib.indexByte s.data.toList 0 := by
          have := h m rfl
          unfold textB at this
          omega
        have hix : Calls Try.prog 18 #[.string s, .int .u8 0] w fun e w' => e = .returned (.int .i64 (Lib.indexByte s.data.toList 0)) ∧ w = w' := hix
        generalize Lib.indexByte s.data.toList 0 = q at *
        clear h h1 h2 h3
        go_enter Try.func6, Try.ntmps6
        go_wp2_with fail
        refine hix.mono ?_
        rintro e _ ⟨rfl, rfl⟩
        go_wp2
        exact bodyPost_ret (v := .tuple #[.slice none 0 0, .int .i64 20]) (by simp [results, Try.results6, go_sem]) rfl ⟨none, 0, rfl, Own16.nil _ _, Below.refl _ _⟩
set_option maxHeartbeats 1000000 in
theorem text_yes (s : ByteArray) (m : Nat) (h : textB s m) (w : World) :
    Calls Try.prog 6 #[.string s, .int .i64 m] w (Regs (pairsL (padL s m)) 0 w) := by
  obtain ⟨i0, hi, hz0, hz1, hz2⟩ := parts8
  obtain ⟨h1, h2, h3⟩ := h
  have hix : Calls Try.prog 18 #[.string s, .int .u8 0] w fun e w' => e = .returned (.int .i64 (Lib.indexByte s.data.toList 0)) ∧ w = w' := index_any s 0 w
  have d1 : decide ((m : Int) < 0) = false := by simp
  have d2 : decide (125 < (m : Int)) = false := by simp; omega
  have d3 : decide (2 * (m : Int) < (s.size : Int)) = false := by simp; omega
  have s1 : IntKind.i64.wrap (2 * (m : Int)) = 2 * (m : Int) := IntWalk.i64_in _ (by omega)
  have d4 : decide (0 ≤ Lib.indexByte s.data.toList 0) = false := by simpa using h3
  generalize Lib.indexByte s.data.toList 0 = q at *
  have H1 := Lib.hid h1
  have H2 := Lib.hid h2
  have HI0 := Lib.hid hi
  have HZ0 := Lib.hid hz0
  have HZ1 := Lib.hid hz1
  have HZ2 := Lib.hid hz2
  clear hi hz0 hz1 hz2 h1 h2 h3
  go_enter Try.func6, Try.ntmps6
  go_wp2_with fail
  refine hix.mono ?_
  rintro e _ ⟨rfl, rfl⟩
  go_wp2_with (at_make; refine wpList_make_full _ rfl _ _ 23 rfl w.heap.size 5 i0 (.int .u8 0) 1 Try.underlying23 HI0.out HZ0.out HZ1.out _ _ _ _ (2 * m) rfl rfl (by omega) (by have := H1.out; omega) (by rw [HZ2.out]; have := H1.out; omega) (by have := H1.out; unfold maxLen; omega) (Nat.le_refl _) ?_; intro w1 hO1 hG1)
  have hB1 : Below w.heap.size w w1 := (Below.refl _ _).grown hG1 (Nat.le_refl _) (by simp)
  have hR1 : Row8 w.heap.size (2 * m) (fun _ => 0) w1 := Row8.of_owns hO1 (fun j hj => made8_zero (2 * m) j hj)
  have hg1 : w.heap.size < w1.heap.size := by
    rcases hO1.2 with ⟨e, _⟩ | ⟨g', cap', cur, e, hg, hb, _⟩
    · cases e
    · cases e; exact (Array.getElem?_eq_some_iff.1 hb).1
  rw [run_copy_string w1 23 9 _ 5 w.heap.size 0 (2 * m) (2 * m) s Try.underlying23 size8 H2.out (fun j hj => by rw [Nat.zero_add, (hR1 j (Nat.lt_of_lt_of_le hj H2.out)).1]; rfl) (fun j hj => by rw [Nat.zero_add]; exact (hR1 j (Nat.lt_of_lt_of_le hj H2.out)).2)]
  rw [show (s.data.toList.map fun x => Value.int .u8 (x.toNat : Int)) = (strB s).map (Value.int .u8) by simp [strB]]
  have hR2 := Row8.setCells (strB s) 0 _ _ hR1
  have hB2 : Below w.heap.size w (w1.setCells w.heap.size 0 ((strB s).map (Value.int .u8))) := below_setCells (Nat.le_refl _) _ 0 _ hB1
  have hsz := (below_setCells (B := w.heap.size) (a := w1) (Nat.le_refl w.heap.size) ((strB s).map (Value.int .u8)) 0 w1 (Below.refl _ _)).size
  generalize w1.setCells w.heap.size 0 ((strB s).map (Value.int .u8)) = w2 at *
  have hs2 : w.heap.size < w2.heap.size := Nat.lt_of_lt_of_le hg1 hsz
  have hbt := hR2.bys (fun j hj => by
    have := strB_bd s (j - 0)
    split <;> omega) hs2 (2 * m)
  simp only [Result.andThen]
  rw [Oper.upon_value]
  have hpad : (List.range (2 * m)).map (fun j => if 0 ≤ j ∧ j < 0 + (strB s).length then (strB s).getD (j - 0) 0 else 0) = padL s m := by
    unfold padL
    refine List.map_congr_left fun j hj => ?_
    by_cases hl : j < (strB s).length
    · rw [if_pos (by omega), Nat.sub_zero]
    · rw [if_neg (by omega)]
      simp [List.getD, hl]
  rw [hpad] at hbt
  have hfr := from_even _ _ _ _ m rfl (by have := H1.out; omega) w2 hbt
  clear hR1 hR2 hO1 hG1 hbt hpad hix
  go_wp2_with fail
  refine hfr.mono ?_
  rintro e w4 ⟨a4, c4, rfl, hO4, hB4⟩
  go_wp2
  exact bodyPost_ret (v := .tuple #[.slice a4 (pairsL (padL s m)).length c4, .int .i64 0]) (by simp [results, Try.results6, go_sem]) rfl ⟨a4, c4, rfl, hO4.le hB2.size, hB2.trans (hB4.mono hB2.size)⟩
end Go.Proofs.Ytkghiendflheiaa
