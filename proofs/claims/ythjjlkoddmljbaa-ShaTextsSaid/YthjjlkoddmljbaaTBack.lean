/- Parse behind Text, Text behind Parse. -/
import Derived.Test.YthjjlkoddmljbaaTParse
set_option linter.unusedVariables false
set_option linter.unusedSimpArgs false
namespace Go.Proofs.Ythjjlkoddmljbaa
open Go.RowKit Go.Shelf
theorem of_strB (s : ByteArray) : strOfNums (strB s) = s := by
  apply ByteArray.ext
  apply Array.ext'
  rw [strOfNums_data]
  unfold strB
  rw [List.map_map]
  conv => rhs; rw [← List.map_id s.data.toList]
  apply List.map_congr_left
  intro x _
  simp
theorem strB_of {xs : List Int} (h : Bytes xs) : strB (strOfNums xs) = xs := by
  unfold strB
  rw [strOfNums_data, List.map_map]
  conv => rhs; rw [← List.map_id xs]
  apply List.map_congr_left
  intro x hx
  have := h x hx
  simp only [Function.comp, id, UInt8.toNat_ofNat']
  omega
theorem texted_length (h : List Int) : (texted h).length = 64 := by simp [texted]
/-- The half of a byte that digit i shows. -/
def nb (h : List Int) (i : Nat) : Int := if i % 2 = 0 then h.getD (i / 2) 0 / 16 else h.getD (i / 2) 0 % 16
theorem nb_bd {h : List Int} (hb : Bytes h) (i : Nat) : 0 ≤ nb h i ∧ nb h i < 16 := by
  have := hb.get (i / 2)
  unfold nb; split <;> omega
theorem texted_get {h : List Int} (hb : Bytes h) (i : Nat) (hi : i < 64) : (texted h).getD i 0 = dig (nb h i) := by
  have := hb.get (i / 2)
  unfold texted dig nb
  rw [List.getD, List.getElem?_map, List.getElem?_range hi]
  simp only [Option.map_some, Option.getD_some]
  congr 2
  split <;> omega
theorem texted_bytes {h : List Int} (hb : Bytes h) : Bytes (texted h) := fun x hx => by
  obtain ⟨i, hi, rfl⟩ := List.mem_iff_getElem.1 hx
  have hi' : i < 64 := by rw [texted_length] at hi; exact hi
  have e := texted_get hb i hi'
  rw [List.getD, List.getElem?_eq_getElem hi, Option.getD_some] at e
  rw [e]
  exact dig_bd _ (nb_bd hb i).1 (nb_bd hb i).2
theorem half_texted {h : List Int} (hb : Bytes h) (i : Nat) (hi : i < 64) : half (texted h) i = nb h i := by
  unfold half
  rw [texted_get hb i hi, dix_dig _ (nb_bd hb i).1 (nb_bd hb i).2]
theorem hex_texted {h : List Int} (hb : Bytes h) : HexText (texted h) := ⟨texted_length h, fun i hi => by rw [half_texted hb i hi]; exact (nb_bd hb i).1⟩
theorem hashOf_get (xs : List Int) (j : Nat) (hj : j < 32) : (hashOf xs).getD j 0 = 16 * half xs (2 * j) + half xs (2 * j + 1) := by
  unfold hashOf
  rw [List.getD, List.getElem?_map, List.getElem?_range hj]
  simp only [Option.map_some, Option.getD_some, hw]
  rw [if_pos (by omega)]
theorem hashOf_length (xs : List Int) : (hashOf xs).length = 32 := by simp [hashOf]
theorem hash_texted {h : List Int} (hb : Bytes h) (hl : h.length = 32) : hashOf (texted h) = h := by
  apply List.ext_getElem?
  intro j
  by_cases hj : j < 32
  · have e := hashOf_get (texted h) j hj
    rw [half_texted hb _ (by omega), half_texted hb _ (by omega)] at e
    unfold nb at e
    rw [if_pos (by omega), if_neg (by omega), show 2 * j / 2 = j by omega, show (2 * j + 1) / 2 = j by omega, show 16 * (h.getD j 0 / 16) + h.getD j 0 % 16 = h.getD j 0 by omega] at e
    rw [List.getD, List.getD, List.getElem?_eq_getElem (by rw [hashOf_length]; exact hj), List.getElem?_eq_getElem (by omega)] at e
    rw [List.getElem?_eq_getElem (by rw [hashOf_length]; exact hj), List.getElem?_eq_getElem (by omega)]
    simpa using e
  · rw [List.getElem?_eq_none (by rw [hashOf_length]; omega), List.getElem?_eq_none (by omega)]
theorem hashOf_bytes {xs : List Int} (hx : HexText xs) (hb : Bytes xs) : Bytes (hashOf xs) := fun x hm => by
  obtain ⟨j, hj, rfl⟩ := List.mem_iff_getElem.1 hm
  have hj' : j < 32 := by rw [hashOf_length] at hj; exact hj
  have e := hashOf_get xs j hj'
  rw [List.getD, List.getElem?_eq_getElem hj, Option.getD_some] at e
  rw [e]
  have h1 := half_bd hb (2 * j)
  have h2 := half_bd hb (2 * j + 1)
  have h3 := hx.2 (2 * j) (by omega)
  have h4 := hx.2 (2 * j + 1) (by omega)
  omega
theorem texted_hash {xs : List Int} (hx : HexText xs) (hb : Bytes xs) : texted (hashOf xs) = xs := by
  apply List.ext_getElem?
  intro i
  by_cases hi : i < 64
  · have e := texted_get (hashOf_bytes hx hb) i hi
    have e2 : nb (hashOf xs) i = half xs i := by
      unfold nb
      rw [hashOf_get _ _ (by omega)]
      have h1 := half_bd hb (2 * (i / 2))
      have h2 := half_bd hb (2 * (i / 2) + 1)
      have h3 := hx.2 (2 * (i / 2)) (by omega)
      have h4 := hx.2 (2 * (i / 2) + 1) (by omega)
      by_cases h : i % 2 = 0
      · rw [if_pos h]
        rw [show half xs i = half xs (2 * (i / 2)) by rw [show 2 * (i / 2) = i by omega]]; omega
      · rw [if_neg h]
        rw [show half xs i = half xs (2 * (i / 2) + 1) by rw [show 2 * (i / 2) + 1 = i by omega]]; omega
    rw [e2, half, dig_dix _ (hb.get i).1 (hb.get i).2 (hx.2 i hi)] at e
    have hl := hx.1
    rw [List.getD, List.getD, List.getElem?_eq_getElem (by rw [texted_length]; exact hi), List.getElem?_eq_getElem (by omega)] at e
    rw [List.getElem?_eq_getElem (by rw [texted_length]; exact hi), List.getElem?_eq_getElem (by omega)]
    simpa using e
  · have hl := hx.1
    rw [List.getElem?_eq_none (by rw [texted_length]; omega), List.getElem?_eq_none (by omega)]
theorem parse_any (s : ByteArray) (w : World) :
    Calls Try.prog 4 #[.string s] w fun e w' => ((HexText (strB s) ∧ e = .returned (.tuple #[.agg (nums .u8 32 (bf (hashOf (strB s)))), .int .i64 0])) ∨ (¬ HexText (strB s) ∧ e = .returned NoHash)) ∧ Below w.heap.size w w' := by
  by_cases h : s.size = 64
  · exact parse_64 s h w
  · exact (parse_len s h w).mono fun e w' ⟨he, hb⟩ => ⟨.inr ⟨fun hx => h (by have := hx.1; rwa [strB_length] at this), he⟩, hb⟩
theorem parse_texted {h : List Int} (hb : Bytes h) (hl : h.length = 32) (w : World) :
    Calls Try.prog 4 #[.string (strOfNums (texted h))] w fun e w' => e = .returned (.tuple #[.agg (nums .u8 32 (bf h)), .int .i64 0]) ∧ Below w.heap.size w w' := by
  refine (parse_any (strOfNums (texted h)) w).mono ?_
  rintro e w' ⟨h1 | h1, hB⟩
  · rw [strB_of (texted_bytes hb), hash_texted hb hl] at h1
    exact ⟨h1.2, hB⟩
  · rw [strB_of (texted_bytes hb)] at h1
    exact absurd (hex_texted hb) h1.1
theorem size_arr (f : Nat → Int) : (Try.prog.info? 22).map (·.size) = some (nums .u8 32 f).size := by rw [nums_size]; kernel_rfl
theorem load_arr {ops : Array Oper} {rest : List Oper} {o : Oper} {a : Act} {w : World} {Q : Exit → Act → World → Prop} {x : Operand} {g : Nat} {f : Nat → Int} (hg : At 22 w g (nums .u8 32 f))
    (hgd : o.guard = none) (ho : o.op = .load 22 x) (hx : a.eval x = .pointer (some ⟨g, 0, none⟩))
    (h : wpList Try.prog ops Q rest (a.put o.dst (.agg (nums .u8 32 f))) w) : wpList Try.prog ops Q (o :: rest) a w :=
  wpList_load_row hgd 22 x ho g hx _ _ _ _ hg Try.underlying22 rfl (size_arr f) h
/-- A load of a whole array behind a guard that is met. -/
theorem load_hash_g {ops : Array Oper} {rest : List Oper} {o : Oper} {a : Act} {w : World} {Q : Exit → Act → World → Prop} {x : Operand} {g : Nat} {f : Nat → Int} (hg : At 23 w g (nums .u8 32 f))
    (hw : Region.wanted o (yielded ops a.tmps) = true) (ho : o.op = .load 23 x) (hx : a.eval x = .pointer (some ⟨g, 0, none⟩))
    (h : wpList Try.prog ops Q rest (a.put o.dst (.agg (nums .u8 32 f))) w) : wpList Try.prog ops Q (o :: rest) a w := by
  unfold wpList
  rw [if_pos hw]
  exact .inl (wp_load_row 23 x ho g hx _ _ _ _ hg Try.underlying23 rfl (size_hash f) h)
theorem load_arr_g {ops : Array Oper} {rest : List Oper} {o : Oper} {a : Act} {w : World} {Q : Exit → Act → World → Prop} {x : Operand} {g : Nat} {f : Nat → Int} (hg : At 22 w g (nums .u8 32 f))
    (hw : Region.wanted o (yielded ops a.tmps) = true) (ho : o.op = .load 22 x) (hx : a.eval x = .pointer (some ⟨g, 0, none⟩))
    (h : wpList Try.prog ops Q rest (a.put o.dst (.agg (nums .u8 32 f))) w) : wpList Try.prog ops Q (o :: rest) a w := by
  unfold wpList
  rw [if_pos hw]
  exact .inl (wp_load_row 22 x ho g hx _ _ _ _ hg Try.underlying22 rfl (size_arr f) h)
theorem build_hash_g {ops : Array Oper} {rest : List Oper} {o : Oper} {a : Act} {w : World} {Q : Exit → Act → World → Prop}
    (hw : Region.wanted o (yielded ops a.tmps) = true) (ho : o.op = .build 23 #[]) (h : wpList Try.prog ops Q rest (a.put o.dst (.agg (nums .u8 32 (fun _ => 0)))) w) : wpList Try.prog ops Q (o :: rest) a w := by
  unfold wpList
  rw [if_pos hw]
  refine .inl ?_
  have e : ((#[] : Array (Nat × Operand)).map fun (i, x) => (i, a.eval x)).toList = [] := by simp
  refine wp_build 23 #[] ho ?_ ?_
  · rw [e, built_hash]; rfl
  · rw [e, built_hash]; exact h
end Go.Proofs.Ythjjlkoddmljbaa
