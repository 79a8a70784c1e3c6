/- The walk of the statement ShaBack: Parse behind Text, Text behind Parse. -/
import Derived.Test.YthjjlkoddmljbaaDoorSParse
import Derived.Test.YthjjlkoddmljbaaDoorSCopies
set_option linter.unusedVariables false
set_option linter.unusedSimpArgs false
namespace Go.Proofs.YthjjlkoddmljbaaDoor
open Go.RowKit Go.Shelf
theorem of_strB (s : ByteArray) : strOfNums (strB s) = s := by
  apply ByteArray.ext
  apply Array.ext'
  rw [strOfNums_data]
  unfold strB
  rw [List.map_map]
  conv => rhs; rw [← List.map_id s.data.toList]
  apply List.map_congr_left
  intro x _
  simp
theorem strB_of {xs : List Int} (h : Bytes xs) : strB (strOfNums xs) = xs := by
  unfold strB
  rw [strOfNums_data, List.map_map]
  conv => rhs; rw [← List.map_id xs]
  apply List.map_congr_left
  intro x hx
  have := h x hx
  simp only [Function.comp, id, UInt8.toNat_ofNat']
  omega
theorem texted_length (h : List Int) : (texted h).length = 64 := by simp [texted]
/-- The half of a byte that digit i shows. -/
def nb (h : List Int) (i : Nat) : Int := if i % 2 = 0 then h.getD (i / 2) 0 / 16 else h.getD (i / 2) 0 % 16
theorem nb_bd {h : List Int} (hb : Bytes h) (i : Nat) : 0 ≤ nb h i ∧ nb h i < 16 := by
  have := hb.get (i / 2)
  unfold nb; split <;> omega
theorem texted_get {h : List Int} (hb : Bytes h) (i : Nat) (hi : i < 64) : (texted h).getD i 0 = dig (nb h i) := by
  have := hb.get (i / 2)
  unfold texted dig nb
  rw [List.getD, List.getElem?_map, List.getElem?_range hi]
  simp only [Option.map_some, Option.getD_some]
  congr 2
  split <;> omega
theorem texted_bytes {h : List Int} (hb : Bytes h) : Bytes (texted h) := fun x hx => by
  obtain ⟨i, hi, rfl⟩ := List.mem_iff_getElem.1 hx
  have hi' : i < 64 := by rw [texted_length] at hi; exact hi
  have e := texted_get hb i hi'
  rw [List.getD, List.getElem?_eq_getElem hi, Option.getD_some] at e
  rw [e]
  exact dig_bd _ (nb_bd hb i).1 (nb_bd hb i).2
theorem half_texted {h : List Int} (hb : Bytes h) (i : Nat) (hi : i < 64) : half (texted h) i = nb h i := by
  unfold half
  rw [texted_get hb i hi, dix_dig _ (nb_bd hb i).1 (nb_bd hb i).2]
theorem hex_texted {h : List Int} (hb : Bytes h) : HexText (texted h) := ⟨texted_length h, fun i hi => by rw [half_texted hb i hi]; exact (nb_bd hb i).1⟩
theorem hashOf_get (xs : List Int) (j : Nat) (hj : j < 32) : (hashOf xs).getD j 0 = 16 * half xs (2 * j) + half xs (2 * j + 1) := by
  unfold hashOf
  rw [List.getD, List.getElem?_map, List.getElem?_range hj]
  simp only [Option.map_some, Option.getD_some, hw]
  rw [if_pos (by omega)]
theorem hashOf_length (xs : List Int) : (hashOf xs).length = 32 := by simp [hashOf]
theorem hash_texted {h : List Int} (hb : Bytes h) (hl : h.length = 32) : hashOf (texted h) = h := by
  apply List.ext_getElem?
  intro j
  by_cases hj : j < 32
  · have e := hashOf_get (texted h) j hj
    rw [half_texted hb _ (by omega), half_texted hb _ (by omega)] at e
    unfold nb at e
    rw [if_pos (by omega), if_neg (by omega), show 2 * j / 2 = j by omega, show (2 * j + 1) / 2 = j by omega, show 16 * (h.getD j 0 / 16) + h.getD j 0 % 16 = h.getD j 0 by omega] at e
    rw [List.getD, List.getD, List.getElem?_eq_getElem (by rw [hashOf_length]; exact hj), List.getElem?_eq_getElem (by omega)] at e
    rw [List.getElem?_eq_getElem (by rw [hashOf_length]; exact hj), List.getElem?_eq_getElem (by omega)]
    simpa using e
  · rw [List.getElem?_eq_none (by rw [hashOf_length]; omega), List.getElem?_eq_none (by omega)]
theorem hashOf_bytes {xs : List Int} (hx : HexText xs) (hb : Bytes xs) : Bytes (hashOf xs) := fun x hm => by
  obtain ⟨j, hj, rfl⟩ := List.mem_iff_getElem.1 hm
  have hj' : j < 32 := by rw [hashOf_length] at hj; exact hj
  have e := hashOf_get xs j hj'
  rw [List.getD, List.getElem?_eq_getElem hj, Option.getD_some] at e
  rw [e]
  have h1 := half_bd hb (2 * j)
  have h2 := half_bd hb (2 * j + 1)
  have h3 := hx.2 (2 * j) (by omega)
  have h4 := hx.2 (2 * j + 1) (by omega)
  omega
theorem texted_hash {xs : List Int} (hx : HexText xs) (hb : Bytes xs) : texted (hashOf xs) = xs := by
  apply List.ext_getElem?
  intro i
  by_cases hi : i < 64
  · have e := texted_get (hashOf_bytes hx hb) i hi
    have e2 : nb (hashOf xs) i = half xs i := by
      unfold nb
      rw [hashOf_get _ _ (by omega)]
      have h1 := half_bd hb (2 * (i / 2))
      have h2 := half_bd hb (2 * (i / 2) + 1)
      have h3 := hx.2 (2 * (i / 2)) (by omega)
      have h4 := hx.2 (2 * (i / 2) + 1) (by omega)
      by_cases h : i % 2 = 0
      · rw [if_pos h]
        rw [show half xs i = half xs (2 * (i / 2)) by rw [show 2 * (i / 2) = i by omega]]; omega
      · rw [if_neg h]
        rw [show half xs i = half xs (2 * (i / 2) + 1) by rw [show 2 * (i / 2) + 1 = i by omega]]; omega
    rw [e2, half, dig_dix _ (hb.get i).1 (hb.get i).2 (hx.2 i hi)] at e
    have hl := hx.1
    rw [List.getD, List.getD, List.getElem?_eq_getElem (by rw [texted_length]; exact hi), List.getElem?_eq_getElem (by omega)] at e
    rw [List.getElem?_eq_getElem (by rw [texted_length]; exact hi), List.getElem?_eq_getElem (by omega)]
    simpa using e
  · have hl := hx.1
    rw [List.getElem?_eq_none (by rw [texted_length]; omega), List.getElem?_eq_none (by omega)]
theorem parse_any (s : ByteArray) (w : World) :
    Calls Tryd.prog 16 #[.string s] w fun e w' => ((HexText (strB s) ∧ e = .returned (.tuple #[.agg (nums .u8 32 (bf (hashOf (strB s)))), .int .i64 0])) ∨ (¬ HexText (strB s) ∧ e = .returned NoHash)) ∧ Below w.heap.size w w' := by
  by_cases h : s.size = 64
  · exact parse_64 s h w
  · exact (parse_len s h w).mono fun e w' ⟨he, hb⟩ => ⟨.inr ⟨fun hx => h (by have := hx.1; rwa [strB_length] at this), he⟩, hb⟩
theorem parse_texted {h : List Int} (hb : Bytes h) (hl : h.length = 32) (w : World) :
    Calls Tryd.prog 16 #[.string (strOfNums (texted h))] w fun e w' => e = .returned (.tuple #[.agg (nums .u8 32 (bf h)), .int .i64 0]) ∧ Below w.heap.size w w' := by
  refine (parse_any (strOfNums (texted h)) w).mono ?_
  rintro e w' ⟨h1 | h1, hB⟩
  · rw [strB_of (texted_bytes hb), hash_texted hb hl] at h1
    exact ⟨h1.2, hB⟩
  · rw [strB_of (texted_bytes hb)] at h1
    exact absurd (hex_texted hb) h1.1
theorem size_arr (f : Nat → Int) : (Tryd.prog.info? 37).map (·.size) = some (nums .u8 32 f).size := by rw [nums_size]; kernel_rfl
theorem load_arr {ops : Array Oper} {rest : List Oper} {o : Oper} {a : Act} {w : World} {Q : Exit → Act → World → Prop} {x : Operand} {g : Nat} {f : Nat → Int} (hg : At 37 w g (nums .u8 32 f))
    (hgd : o.guard = none) (ho : o.op = .load 37 x) (hx : a.eval x = .pointer (some ⟨g, 0, none⟩))
    (h : wpList Tryd.prog ops Q rest (a.put o.dst (.agg (nums .u8 32 f))) w) : wpList Tryd.prog ops Q (o :: rest) a w :=
  wpList_load_row hgd 37 x ho g hx _ _ _ _ hg Tryd.underlying37 rfl (size_arr f) h
/-- A load of a whole array behind a guard that is met. -/
theorem load_hash_g {ops : Array Oper} {rest : List Oper} {o : Oper} {a : Act} {w : World} {Q : Exit → Act → World → Prop} {x : Operand} {g : Nat} {f : Nat → Int} (hg : At 38 w g (nums .u8 32 f))
    (hw : Region.wanted o (yielded ops a.tmps) = true) (ho : o.op = .load 38 x) (hx : a.eval x = .pointer (some ⟨g, 0, none⟩))
    (h : wpList Tryd.prog ops Q rest (a.put o.dst (.agg (nums .u8 32 f))) w) : wpList Tryd.prog ops Q (o :: rest) a w := by
  unfold wpList
  rw [if_pos hw]
  exact .inl (wp_load_row 38 x ho g hx _ _ _ _ hg Tryd.underlying38 rfl (size_hash f) h)
theorem load_arr_g {ops : Array Oper} {rest : List Oper} {o : Oper} {a : Act} {w : World} {Q : Exit → Act → World → Prop} {x : Operand} {g : Nat} {f : Nat → Int} (hg : At 37 w g (nums .u8 32 f))
    (hw : Region.wanted o (yielded ops a.tmps) = true) (ho : o.op = .load 37 x) (hx : a.eval x = .pointer (some ⟨g, 0, none⟩))
    (h : wpList Tryd.prog ops Q rest (a.put o.dst (.agg (nums .u8 32 f))) w) : wpList Tryd.prog ops Q (o :: rest) a w := by
  unfold wpList
  rw [if_pos hw]
  exact .inl (wp_load_row 37 x ho g hx _ _ _ _ hg Tryd.underlying37 rfl (size_arr f) h)
theorem build_hash_g {ops : Array Oper} {rest : List Oper} {o : Oper} {a : Act} {w : World} {Q : Exit → Act → World → Prop}
    (hw : Region.wanted o (yielded ops a.tmps) = true) (ho : o.op = .build 38 #[]) (h : wpList Tryd.prog ops Q rest (a.put o.dst (.agg (nums .u8 32 (fun _ => 0)))) w) : wpList Tryd.prog ops Q (o :: rest) a w := by
  unfold wpList
  rw [if_pos hw]
  refine .inl ?_
  have e : ((#[] : Array (Nat × Operand)).map fun (i, x) => (i, a.eval x)).toList = [] := by simp
  refine wp_build 38 #[] ho ?_ ?_
  · rw [e, built_hash]; rfl
  · rw [e, built_hash]; exact h
set_option maxRecDepth 100000 in
set_option maxHeartbeats 2000000 in
theorem back_yes (h : List Int) (hb : Bytes h) (hl : h.length = 32) (s : ByteArray) (hs : s.size ≤ 200) (w : World) (hT : Tabs w) :
    Calls Tryd.prog 7 #[.agg (nums .u8 32 (bf h)), .string s] w fun e w' => e = .returned (.bool true) ∧ Below w.heap.size w w' := by
  have HB := Lib.hid hb
  have HL := Lib.hid hl
  have A0 := At.new 37 w (nums .u8 32 (bf h))
  have B0 : Below w.heap.size w (w.alloc (.cells (nums .u8 32 (bf h)) 37)) := (Below.refl _ w).alloc (Nat.le_refl _) _
  have z0 : (w.alloc (.cells (nums .u8 32 (bf h)) 37)).heap.size = w.heap.size + 1 := by simp
  have C0 := Lib.hid (And.intro A0 (And.intro B0 (And.intro z0 (hT.alloc (.cells (nums .u8 32 (bf h)) 37)))))
  clear hb hl A0 B0 z0 hT
  go_enter Tryd.func7, Tryd.ntmps7
  go_wp2_with fail
  refine (alive_any _ C0.out.2.2.2).mono ?_
  rintro e w1 ⟨rfl, hB1⟩
  have C1 := Lib.hid (show At 37 w1 w.heap.size (nums .u8 32 (bf h)) ∧ Below w.heap.size w w1 ∧ w.heap.size < w1.heap.size ∧ Tabs w1 from
    ⟨At.below C0.out.1 (by rw [C0.out.2.2.1]; omega) hB1, C0.out.2.1.trans (hB1.mono C0.out.2.1.size), by have := hB1.size; rw [C0.out.2.2.1] at this; omega, C0.out.2.2.2.below C0.out.2.2.2.lt hB1⟩)
  have step : ∀ X Y, (At 37 X w.heap.size (nums .u8 32 (bf h)) ∧ Below w.heap.size w X ∧ w.heap.size < X.heap.size ∧ Tabs X) → Below X.heap.size X Y → (At 37 Y w.heap.size (nums .u8 32 (bf h)) ∧ Below w.heap.size w Y ∧ w.heap.size < Y.heap.size ∧ Tabs Y) := fun X Y ⟨a, b, c, d⟩ hb =>
    ⟨At.below a c hb, b.trans (hb.mono b.size), Nat.lt_of_lt_of_le c hb.size, d.below d.lt hb⟩
  have ST := Lib.hid step
  have zh := (zero_of_info zero_hash).1
  clear hB1 C0 step
  go_wp2_with (first | (refine load_arr C1.out.1 rfl rfl rfl ?_) | fail)
  refine (text_any h HB.out w1).mono ?_
  rintro e w2 ⟨rfl, hB2⟩
  have C2 := Lib.hid (ST.out _ _ C1.out hB2)
  clear hB2 C1
  go_wp2_with fail
  refine (parse_texted HB.out HL.out w2).mono ?_
  rintro e w3 ⟨rfl, hB3⟩
  have C3 := Lib.hid (ST.out _ _ C2.out hB3)
  clear hB3 C2
  have N3 := Lib.hid (At.new 38 w3 (nums .u8 32 fun _ => 0))
  go_wp2_with (first | (refine store_hash N3.out rfl rfl rfl rfl ?_) | fail)
  have hB4 : Below w3.heap.size w3 ((w3.alloc (.cells (nums .u8 32 fun _ => 0) 38)).setRow w3.heap.size (nums .u8 32 (bf h))) := below_row ((Below.refl _ w3).alloc (Nat.le_refl _) _) (Nat.le_refl _) _
  have C4 := Lib.hid (ST.out _ _ C3.out hB4)
  have P4 : At 38 ((w3.alloc (.cells (nums .u8 32 fun _ => 0) 38)).setRow w3.heap.size (nums .u8 32 (bf h))) w3.heap.size (nums .u8 32 (bf h)) := N3.out.row
  have g4 : w3.heap.size < ((w3.alloc (.cells (nums .u8 32 fun _ => 0) 38)).setRow w3.heap.size (nums .u8 32 (bf h))).heap.size := P4.lt
  generalize (w3.alloc (.cells (nums .u8 32 fun _ => 0) 38)).setRow w3.heap.size (nums .u8 32 (bf h)) = w4 at *
  obtain ⟨g, hg⟩ : ∃ g, w3.heap.size = g := ⟨_, rfl⟩
  rw [hg] at P4 g4 ⊢
  have P4' := Lib.hid P4
  have G4 := Lib.hid g4
  clear hB4 N3 C3 hg P4 g4
  have e1 := eq_hash (bf h)
  have e2 := eq_hash (fun _ => 0)
  refine (parse_any s w4).mono ?_
  rintro e w5 ⟨⟨hx, rfl⟩ | ⟨hx, rfl⟩, hB5⟩
  · have C5 := Lib.hid (ST.out _ _ C4.out hB5)
    have P5 := Lib.hid (At.below P4'.out G4.out hB5)
    have N5 := Lib.hid (At.new 38 w5 (nums .u8 32 fun _ => 0))
    have G5 := Lib.hid (Nat.lt_of_lt_of_le G4.out hB5.size)
    have HX := Lib.hid hx
    clear hB5 C4 P4' G4 hx
    have hB6 : Below w5.heap.size w5 ((w5.alloc (.cells (nums .u8 32 fun _ => 0) 38)).setRow w5.heap.size (nums .u8 32 (bf (hashOf (strB s))))) := below_row ((Below.refl _ w5).alloc (Nat.le_refl _) _) (Nat.le_refl _) _
    have C6 := Lib.hid (ST.out _ _ C5.out hB6)
    have P6 := Lib.hid (At.below P5.out G5.out hB6)
    have N6 := Lib.hid (N5.out.row (cs' := nums .u8 32 (bf (hashOf (strB s)))))
    clear hB6 C5 P5
    go_wp2_with (first | (refine store_hash N5.out rfl rfl rfl rfl ?_) | (refine load_hash_g P6.out (by rfl) rfl rfl ?_) | (refine load_arr_g C6.out.1 (by rfl) rfl rfl ?_) | (refine load_hash_g N6.out (by rfl) rfl rfl ?_))
    refine (text_any _ (hashOf_bytes HX.out (strB_bytes s)) _).mono ?_
    rintro e w7 ⟨rfl, hB7⟩
    rw [texted_hash HX.out (strB_bytes s), of_strB]
    have C7 := Lib.hid (ST.out _ _ C6.out hB7)
    clear hB7
    go_wp2
    go_ret
    exact ⟨by simp, C7.out.2.1⟩
  · have C5 := Lib.hid (ST.out _ _ C4.out hB5)
    have P5 := Lib.hid (At.below P4'.out G4.out hB5)
    have N5 := Lib.hid (At.new 38 w5 (nums .u8 32 fun _ => 0))
    have G5 := Lib.hid (Nat.lt_of_lt_of_le G4.out hB5.size)
    clear hB5 C4 P4' G4 hx
    have hB6 : Below w5.heap.size w5 ((w5.alloc (.cells (nums .u8 32 fun _ => 0) 38)).setRow w5.heap.size (nums .u8 32 (fun _ => 0))) := below_row ((Below.refl _ w5).alloc (Nat.le_refl _) _) (Nat.le_refl _) _
    have C6 := Lib.hid (ST.out _ _ C5.out hB6)
    have P6 := Lib.hid (At.below P5.out G5.out hB6)
    have N6 := Lib.hid (N5.out.row (cs' := nums .u8 32 (fun _ => 0)))
    clear hB6 C5 P5
    unfold NoHash
    go_wp2_with (first | (refine store_hash N5.out rfl rfl rfl rfl ?_) | (refine load_hash_g P6.out (by rfl) rfl rfl ?_) | (refine load_arr_g C6.out.1 (by rfl) rfl rfl ?_) | (refine load_hash_g N6.out (by rfl) rfl rfl ?_) | (refine build_hash_g (by rfl) rfl ?_))
    go_ret
    exact ⟨by simp, C6.out.2.1⟩
set_option maxRecDepth 100000 in
theorem back_long (h : List Int) (s : ByteArray) (hs : 200 < s.size) (w : World) (hT : Tabs w) :
    Calls Tryd.prog 7 #[.agg (nums .u8 32 (bf h)), .string s] w fun e w' => e = .returned (.bool true) ∧ Below w.heap.size w w' := by
  have HB := Lib.hid ((Below.refl w.heap.size w).alloc (Nat.le_refl _) (.cells (nums .u8 32 (bf h)) 37))
  have hal := alive_any _ (hT.alloc (.cells (nums .u8 32 (bf h)) 37))
  clear hT
  go_enter Tryd.func7, Tryd.ntmps7
  go_wp2_with fail
  refine hal.mono ?_
  rintro e w1 ⟨rfl, hB1⟩
  go_wp2
  go_ret
  exact ⟨rfl, HB.out.trans (hB1.mono HB.out.size)⟩
theorem back_any (h : List Int) (s : ByteArray) (w : World) (hT : Tabs w) (hh : Bytes h ∧ h.length = 32) (_ : s.size ≤ maxLen) :
    Calls Tryd.prog 7 #[.agg (nums .u8 32 (bf h)), .string s] w fun e w' => e = .returned (.bool true) ∧ Below w.heap.size w w' := by
  by_cases hs : s.size ≤ 200
  · exact back_yes h hh.1 hh.2 s hs w hT
  · exact back_long h s (by omega) w hT
end Go.Proofs.YthjjlkoddmljbaaDoor
