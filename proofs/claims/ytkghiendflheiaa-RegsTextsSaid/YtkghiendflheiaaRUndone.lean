/- The walk of the statement RegsUndone. -/
import Derived.Test.YtkghiendflheiaaRFromT
import Derived.Test.YtkghiendflheiaaRTextW
import Derived.Test.YtkghiendflheiaaRSigns
import Derived.Test.YtkghiendflheiaaRAlive
import Derived.Test.YtkghiendflheiaaRMath3
set_option linter.unusedVariables false
set_option linter.unusedSimpArgs false
namespace Go.Proofs.Ytkghiendflheiaa
open Go.RowKit
theorem of_strB (s : ByteArray) : strOfNums (strB s) = s := by
  obtain ⟨⟨l⟩⟩ := s
  simp only [strOfNums, strB, List.map_map]
  congr 2
  conv => rhs; rw [← List.map_id l]
  refine List.map_congr_left fun x _ => ?_
  simp
theorem signed_facts (v many : Int) (h0 : 0 ≤ v) (h1 : v < 18446744073709551616) : ∃ L k U j : Int, (∀ w, Calls Try.prog 15 #[.int .u64 v, .int .i64 many] w fun e w' => e = .returned (.tuple #[.int .i64 L, .int .i64 k]) ∧ w = w') ∧ (∀ w, Calls Try.prog 16 #[.int .i64 L, .int .i64 many] w fun e w' => e = .returned (.tuple #[.int .u64 U, .int .i64 j]) ∧ w = w') ∧ (k = 20 ∨ (k = 0 ∧ j = 0 ∧ U = v)) := by
  by_cases hl : lenB many = false
  · exact ⟨0, 20, 0, 20, signed_len v many hl, unsigned_len 0 many hl, .inl rfl⟩
  · have hl : lenB many = true := by simpa using hl
    rcases len_yes hl with rfl | rfl | rfl
    · by_cases hv : v < 65536
      · by_cases hs : v < 32768
        · exact ⟨v, 0, v % 65536, 0, fun w => by have := signed1_yes v h0 hv w; rwa [show sgm 65536 v = v by unfold sgm; omega] at this, unsigned1_pos v h0 hs, .inr ⟨rfl, rfl, by omega⟩⟩
        · exact ⟨v - 65536, 0, (v - 65536) % 65536, 0, fun w => by have := signed1_yes v h0 hv w; rwa [show sgm 65536 v = v - 65536 by unfold sgm; omega] at this, unsigned1_neg (v - 65536) (by omega) (by omega), .inr ⟨rfl, rfl, by omega⟩⟩
      · exact ⟨0, 20, 0 % 65536, 0, signed1_no v h0 (by omega), unsigned1_pos 0 (by omega) (by omega), .inl rfl⟩
    · by_cases hv : v < 4294967296
      · by_cases hs : v < 2147483648
        · exact ⟨v, 0, v % 4294967296, 0, fun w => by have := signed2_yes v h0 hv w; rwa [show sgm 4294967296 v = v by unfold sgm; omega] at this, unsigned2_pos v h0 hs, .inr ⟨rfl, rfl, by omega⟩⟩
        · exact ⟨v - 4294967296, 0, (v - 4294967296) % 4294967296, 0, fun w => by have := signed2_yes v h0 hv w; rwa [show sgm 4294967296 v = v - 4294967296 by unfold sgm; omega] at this, unsigned2_neg (v - 4294967296) (by omega) (by omega), .inr ⟨rfl, rfl, by omega⟩⟩
      · exact ⟨0, 20, 0 % 4294967296, 0, signed2_no v h0 (by omega), unsigned2_pos 0 (by omega) (by omega), .inl rfl⟩
    · by_cases hs : v < 9223372036854775808
      · exact ⟨v, 0, v % 18446744073709551616, 0, fun w => by have := signed4_yes v h0 h1 w; rwa [show sgm 18446744073709551616 v = v by unfold sgm; omega] at this, unsigned4_pos v h0 hs, .inr ⟨rfl, rfl, by omega⟩⟩
      · exact ⟨v - 18446744073709551616, 0, (v - 18446744073709551616) % 18446744073709551616, 0, fun w => by have := signed4_yes v h0 h1 w; rwa [show sgm 18446744073709551616 v = v - 18446744073709551616 by unfold sgm; omega] at this, unsigned4_neg (v - 18446744073709551616) (by omega) (by omega), .inr ⟨rfl, rfl, by omega⟩⟩
theorem unsigned_facts (n many : Int) (h0 : -9223372036854775808 ≤ n) (h1 : n ≤ 9223372036854775807) : ∃ C k D j : Int, (∀ w, Calls Try.prog 16 #[.int .i64 n, .int .i64 many] w fun e w' => e = .returned (.tuple #[.int .u64 C, .int .i64 k]) ∧ w = w') ∧ (∀ w, Calls Try.prog 15 #[.int .u64 C, .int .i64 many] w fun e w' => e = .returned (.tuple #[.int .i64 D, .int .i64 j]) ∧ w = w') ∧ (k = 20 ∨ (k = 0 ∧ j = 0 ∧ D = n)) := by
  by_cases hl : lenB many = false
  · exact ⟨0, 20, 0, 20, unsigned_len n many hl, signed_len 0 many hl, .inl rfl⟩
  · have hl : lenB many = true := by simpa using hl
    rcases len_yes hl with rfl | rfl | rfl
    · by_cases ha : 32768 ≤ n
      · exact ⟨0, 20, sgm 65536 0, 0, unsigned1_hi n ha h1, signed1_yes 0 (by omega) (by omega), .inl rfl⟩
      · by_cases hb : n < -32768
        · exact ⟨0, 20, sgm 65536 0, 0, unsigned1_lo n h0 hb, signed1_yes 0 (by omega) (by omega), .inl rfl⟩
        · refine ⟨n % 65536, 0, sgm 65536 (n % 65536), 0, ?_, signed1_yes (n % 65536) (by omega) (by omega), .inr ⟨rfl, rfl, by unfold sgm; omega⟩⟩
          by_cases hp : 0 ≤ n
          · exact unsigned1_pos n hp (by omega)
          · exact unsigned1_neg n (by omega) (by omega)
    · by_cases ha : 2147483648 ≤ n
      · exact ⟨0, 20, sgm 4294967296 0, 0, unsigned2_hi n ha h1, signed2_yes 0 (by omega) (by omega), .inl rfl⟩
      · by_cases hb : n < -2147483648
        · exact ⟨0, 20, sgm 4294967296 0, 0, unsigned2_lo n h0 hb, signed2_yes 0 (by omega) (by omega), .inl rfl⟩
        · refine ⟨n % 4294967296, 0, sgm 4294967296 (n % 4294967296), 0, ?_, signed2_yes (n % 4294967296) (by omega) (by omega), .inr ⟨rfl, rfl, by unfold sgm; omega⟩⟩
          by_cases hp : 0 ≤ n
          · exact unsigned2_pos n hp (by omega)
          · exact unsigned2_neg n (by omega) (by omega)
    · refine ⟨n % 18446744073709551616, 0, sgm 18446744073709551616 (n % 18446744073709551616), 0, ?_, signed4_yes (n % 18446744073709551616) (by omega) (by omega), .inr ⟨rfl, rfl, by unfold sgm; omega⟩⟩
      by_cases hp : 0 ≤ n
      · exact unsigned4_pos n hp (by omega)
      · exact unsigned4_neg n (by omega) (by omega)
theorem padL_bd (s : ByteArray) (m : Nat) : ∀ x ∈ padL s m, 0 ≤ x ∧ x < 256 := fun x hx => by
  simp only [padL, List.mem_map, List.mem_range] at hx
  obtain ⟨j, _, rfl⟩ := hx
  exact strB_bd s j
theorem padL_len (s : ByteArray) (m : Nat) : (padL s m).length = 2 * m := by simp [padL]
/-- The text of a text's registers is the text. -/
theorem textL_pad (s : ByteArray) (m : Nat) (h : textB s m) : textL (pairsL (padL s m)) = strB s := by
  obtain ⟨h1, h2, h3⟩ := h
  have hno := Lib.indexByte_none (show Lib.indexByte s.data.toList 0 = -1 by have := Lib.indexByte_ge s.data.toList 0; omega)
  have hnz : ∀ y ∈ strB s, y ≠ 0 := by
    intro y hy e
    subst e
    simp only [strB, List.mem_map] at hy
    obtain ⟨b, hb, hb0⟩ := hy
    obtain ⟨i, hi, rfl⟩ := List.mem_iff_getElem.1 hb
    refine hno i ?_
    rw [List.getElem?_eq_getElem hi]
    congr 1
    have : (s.data.toList[i]).toNat = 0 := by omega
    exact UInt8.toNat_inj.1 this
  have hsp : padL s m = strB s ++ List.replicate (2 * m - s.size) 0 := by
    apply List.ext_getElem?
    intro i
    by_cases hi : i < 2 * m
    · simp only [padL, List.getElem?_map, List.getElem?_range hi, Option.map_some]
      by_cases hs : i < (strB s).length
      · rw [List.getElem?_append_left hs]; simp [List.getD, hs]
      · rw [List.getElem?_append_right (by omega)]
        rw [strB_len] at hs ⊢
        simp [List.getD, strB_len, hs, show i - s.size < 2 * m - s.size by omega]
    · rw [List.getElem?_eq_none (by rw [padL_len]; omega), List.getElem?_eq_none (by simp [strB_len]; omega)]
  unfold textL
  rw [bytes_pairs _ (padL_bd s m) m (padL_len s m), hsp, List.takeWhile_append_of_pos (by intro x hx; simpa using hnz x hx)]
  cases 2 * m - s.size <;> simp [List.replicate_succ]
theorem text_facts (s : ByteArray) (many : Int) : ∃ (L : List Int) (k : Int), (∀ w, Calls Try.prog 6 #[.string s, .int .i64 many] w (Regs L k w)) ∧ L.length ≤ 125 ∧ (k = 20 ∨ (k = 0 ∧ many = (L.length : Int) ∧ strOfNums (textL L) = s)) := by
  by_cases h : ∃ m : Nat, many = m ∧ textB s m
  · obtain ⟨m, rfl, hm⟩ := h
    have hl : (pairsL (padL s m)).length = m := by rw [pairsL_len, padL_len]; omega
    exact ⟨_, 0, text_yes s m hm, by rw [hl]; exact hm.1, .inr ⟨rfl, by rw [hl], by rw [textL_pad s m hm, of_strB]⟩⟩
  · exact ⟨[], 20, text_no s many (fun m e hm => h ⟨m, e, hm⟩), by simp, .inl rfl⟩
set_option maxRecDepth 100000 in
set_option maxHeartbeats 4000000 in
theorem undone_yes (v n many : Int) (h0 : 0 ≤ v) (h1 : v < 18446744073709551616) (g0 : -9223372036854775808 ≤ n) (g1 : n ≤ 9223372036854775807) (s : ByteArray) (hs : s.size ≤ 400) (a : Option Addr) (cap : Nat) (ls : List Int) (hl : ls.length ≤ 200) (w : World) (hI : Bys16 w.heap.size w (.slice a ls.length cap) ls) :
    Calls Try.prog 5 #[.int .u64 v, .int .i64 n, .int .i64 many, .string s, .slice a ls.length cap] w fun e w' => e = .returned (.bool true) ∧ Below w.heap.size w w' := by
  obtain ⟨L, k, U, j, c1, c2, f1⟩ := signed_facts v many h0 h1
  obtain ⟨C, k', D, j', c3, c4, f2⟩ := unsigned_facts n many g0 g1
  obtain ⟨T, k'', c5, hTl, f3⟩ := text_facts s many
  have hs1 : ¬ ((400 : Int) < s.size) := by omega
  have hs2 : ¬ ((200 : Int) < ls.length) := by omega
  have HI := Lib.hid hI
  have hbd := hI.1
  have HPB := Lib.hid (pairs_bytes ls hbd)
  have HC1 := Lib.hid c1
  have HC2 := Lib.hid c2
  have HC3 := Lib.hid c3
  have HC4 := Lib.hid c4
  have HC5 := Lib.hid c5
  have HF3 := Lib.hid f3
  have HF2 := Lib.hid f2
  have HF1 := Lib.hid f1
  clear c1 c2 c3 c4 c5 f1 f2 f3 h0 h1 g0 g1 hI hbd
  go_enter Try.func5, Try.ntmps5
  go_wp2_with fail
  refine (alive_any w).mono ?_
  rintro e w1 ⟨rfl, hB1⟩
  have D1 := Lib.hid hB1
  clear hB1
  go_wp2_with fail
  refine (HC1.out _).mono ?_
  rintro e _ ⟨rfl, rfl⟩
  go_wp2_with fail
  refine (HC2.out _).mono ?_
  rintro e _ ⟨rfl, rfl⟩
  go_wp2_with fail
  refine (HC3.out _).mono ?_
  rintro e _ ⟨rfl, rfl⟩
  go_wp2_with fail
  refine (HC4.out _).mono ?_
  rintro e _ ⟨rfl, rfl⟩
  go_wp2_with fail
  refine (HC5.out _).mono ?_
  rintro e w2 ⟨at_, ct, rfl, hOT, hB2⟩
  have D2 := Lib.hid (D1.out.trans (hB2.mono D1.out.size))
  have OT := Lib.hid hOT.bys
  clear hB2 hOT
  go_wp2_with fail
  refine (bytes_any a ls.length cap ls (by omega) w2 ((HI.out.below D2.out).mono D2.out.size)).mono ?_
  rintro e w3 ⟨ab, cb, rfl, hOb, hB3⟩
  have D3 := Lib.hid (D2.out.trans (hB3.mono D2.out.size))
  have OT3 := Lib.hid ((OT.out.below hB3).mono hB3.size)
  have OB := Lib.hid hOb.bys
  clear hB3 hOb OT
  go_wp2_with fail
  have hfe := from_even ab (2 * ls.length) cb (bytesL ls) ls.length rfl (by omega) w3 OB.out
  rw [HPB.out] at hfe
  refine hfe.mono ?_
  rintro e w4 ⟨am, cm, rfl, hOm, hB4⟩
  have D4 := Lib.hid (D3.out.trans (hB4.mono D3.out.size))
  have OT4 := Lib.hid ((OT3.out.below hB4).mono hB4.size)
  have OM := Lib.hid hOm.bys
  clear hB4 hOm OT3 OB hfe
  have I4 := Lib.hid ((HI.out.below D4.out).mono D4.out.size)
  have hft := fromt_any at_ T.length ct T (by omega) w4 OT4.out
  have HFT := Lib.hid hft
  clear hft
  rcases HF1.out with rfl | ⟨rfl, rfl, rfl⟩ <;> rcases HF2.out with rfl | ⟨rfl, rfl, rfl⟩ <;> rcases HF3.out with rfl | ⟨rfl, hmm, hst⟩
  all_goals first
    | (subst hmm
       have hft := HFT.out
       rw [hst] at hft
       go_wp2_with fail
       refine hft.mono ?_
       rintro e w5 ⟨rfl, hB5⟩
       have D5 := Lib.hid (D4.out.trans (hB5.mono D4.out.size))
       have OM5 := (OM.out.below hB5).mono hB5.size
       have I5 := (I4.out.below hB5).mono hB5.size
       have hsm := same_yes am ls.length cm a ls.length cap ls (by omega) w5 OM5 I5
       clear hB5 hft OM5 I5
       go_wp2_with fail
       refine hsm.mono ?_
       rintro e w6 ⟨rfl, hB6⟩
       have D6 := Lib.hid (D5.out.trans (hB6.mono D5.out.size))
       clear hB6 hsm
       go_wp2
       go_ret
       exact ⟨rfl, D6.out⟩)
    | (have hsm := same_yes am ls.length cm a ls.length cap ls (by omega) w4 OM.out I4.out
       go_wp2_with fail
       refine hsm.mono ?_
       rintro e w6 ⟨rfl, hB6⟩
       have D6 := Lib.hid (D4.out.trans (hB6.mono D4.out.size))
       clear hB6 hsm
       go_wp2
       go_ret
       exact ⟨rfl, D6.out⟩)
theorem undone_far (v n many : Int) (s : ByteArray) (a : Option Addr) (len cap : Nat) (h : ¬ (s.size ≤ 400 ∧ len ≤ 200)) (w : World) :
    Calls Try.prog 5 #[.int .u64 v, .int .i64 n, .int .i64 many, .string s, .slice a len cap] w fun e w' => e = .returned (.bool true) ∧ Below w.heap.size w w' := by
  have hal := alive_any w
  have hor : (400 < s.size) ∨ (s.size ≤ 400 ∧ 200 < len) := by omega
  clear h
  rcases hor with h1 | ⟨h1, h2⟩
  · have h1i : (400 : Int) < s.size := by omega
    go_enter Try.func5, Try.ntmps5
    go_wp2_with fail
    refine hal.mono ?_
    rintro e w1 ⟨rfl, hB1⟩
    go_wp2
    go_ret
    exact ⟨rfl, hB1⟩
  · have h1i : ¬ ((400 : Int) < s.size) := by omega
    have h2i : (200 : Int) < len := by omega
    go_enter Try.func5, Try.ntmps5
    go_wp2_with fail
    refine hal.mono ?_
    rintro e w1 ⟨rfl, hB1⟩
    go_wp2
    go_ret
    exact ⟨rfl, hB1⟩
theorem undone_any (v n many : Int) (s : ByteArray) (a : Option Addr) (len cap : Nat) (zs : List Int) (w : World) (hv : (Lit.int .u64 v).wf = true) (hn : (Lit.int .i64 n).wf = true) (hm : (Lit.int .i64 many).wf = true) (hs : s.size ≤ maxLen) (hI : IsRow .u16 w a len cap zs) :
    Calls Try.prog 5 #[.int .u64 v, .int .i64 n, .int .i64 many, .string s, .slice a len cap] w fun e w' => e = .returned (.bool true) ∧ Below w.heap.size w w' := by
  by_cases h : s.size ≤ 400 ∧ len ≤ 200
  · obtain ⟨ls, rfl, hB⟩ := bys16_of_row hI
    simp [Lit.wf, IntKind.min, IntKind.max, IntKind.bits, IntKind.signed] at hv hn
    exact undone_yes v n many (by omega) (by omega) (by omega) (by omega) s h.1 a cap ls h.2 w hB
  · exact undone_far v n many s a len cap h w
end Go.Proofs.Ytkghiendflheiaa
