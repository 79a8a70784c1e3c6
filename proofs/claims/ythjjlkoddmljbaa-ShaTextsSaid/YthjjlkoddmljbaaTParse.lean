/- The contract of Parse. -/
import Derived.Test.YthjjlkoddmljbaaTIndex
import Derived.Laws.StructEq
import Derived.Laws.IdiomStrings
set_option linter.unusedVariables false
set_option linter.unusedSimpArgs false
namespace Go.Proofs.Ythjjlkoddmljbaa
open Go.RowKit Go.Shelf
def strB (s : ByteArray) : List Int := s.data.toList.map fun x => (x.toNat : Int)
theorem strB_length (s : ByteArray) : (strB s).length = s.size := by simp [strB]
theorem strB_bytes (s : ByteArray) : Bytes (strB s) := fun x hx => by
  simp only [strB, List.mem_map] at hx
  obtain ⟨b, _, rfl⟩ := hx
  have := b.toNat_lt
  omega
theorem eq_items (T E : TypeId) (k : IntKind) (n : Nat) (f : Nat → Int) (d : Nat) (hE : Try.prog.plainKey E = true) (hs : Try.prog.cellsOf E = 1) (hu : Try.prog.underlying E = some (.int k)) (w : World) : ∀ is : List Nat, (∀ j ∈ is, j < n) → (Op.eqItems (d + 1) E (Try.prog.cellsOf E) (nums k n f) (nums k n f) is).run Try.prog w = .ok true w
  | [], _ => by simp [Op.eqItems]
  | j :: is, h => by
    have h1 := run_part_plain (P := Try.prog) (w := w) hE (nums_get k n f j (h j (by simp)))
    have h2 := eq_items T E k n f d hE hs hu w is (fun i hi => h i (by simp [hi]))
    rw [hs] at h2 ⊢
    simp only [Op.eqItems, Sem.run_bind, Nat.mul_one, h1, Result.andThen_ok, run_equalIn_int w d E k k (f j) (f j) hu]
    simp [h2]
theorem eq_hash (f : Nat → Int) (w : World) : (Op.equalIn 10000 23 (.agg (nums .u8 32 f)) (.agg (nums .u8 32 f))).run Try.prog w = .ok true w := by
  have hi : (Try.prog.info? 5).isSome = true := by kernel_rfl
  obtain ⟨i, hi⟩ := Option.isSome_iff_exists.1 hi
  rw [run_equalIn_array w 9999 _ _ Try.underlying23 hi]
  exact eq_items 23 5 .u8 32 f 9998 (by kernel_rfl) (by kernel_rfl) Try.underlying5 w _ (fun j hj => by simpa using hj)
/-- The place of a byte among the digits; -1. -/
def dix (c : Int) : Int := Lib.indexByte digs.data.toList c.toNat.toUInt8
theorem dix_all : ∀ m : Fin 256, -1 ≤ dix (m.val : Int) ∧ dix (m.val : Int) < 16 ∧ (0 ≤ dix (m.val : Int) → dig (dix (m.val : Int)) = (m.val : Int)) := by decide +kernel
theorem dig_all : ∀ m : Fin 16, dix (dig (m.val : Int)) = (m.val : Int) := by decide +kernel
theorem dix_bd (c : Int) (h0 : 0 ≤ c) (h1 : c < 256) : -1 ≤ dix c ∧ dix c < 16 := by
  have := dix_all ⟨c.toNat, by omega⟩
  rw [show ((⟨c.toNat, by omega⟩ : Fin 256).val : Int) = c from Int.toNat_of_nonneg h0] at this
  exact ⟨this.1, this.2.1⟩
theorem dig_dix (c : Int) (h0 : 0 ≤ c) (h1 : c < 256) (h : 0 ≤ dix c) : dig (dix c) = c := by
  have := dix_all ⟨c.toNat, by omega⟩
  rw [show ((⟨c.toNat, by omega⟩ : Fin 256).val : Int) = c from Int.toNat_of_nonneg h0] at this
  exact this.2.2 h
theorem dix_dig (n : Int) (h0 : 0 ≤ n) (h1 : n < 16) : dix (dig n) = n := by
  have := dig_all ⟨n.toNat, by omega⟩
  rw [show ((⟨n.toNat, by omega⟩ : Fin 16).val : Int) = n from Int.toNat_of_nonneg h0] at this
  exact this
def half (xs : List Int) (i : Nat) : Int := dix (xs.getD i 0)
theorem half_bd {xs : List Int} (h : Bytes xs) (i : Nat) : -1 ≤ half xs i ∧ half xs i < 16 := dix_bd _ (h.get i).1 (h.get i).2
/-- What the first k digits give. -/
def hw (xs : List Int) (k j : Nat) : Int := if 2 * j + 1 < k then 16 * half xs (2 * j) + half xs (2 * j + 1) else if 2 * j < k then half xs (2 * j) else 0
def hashOf (xs : List Int) : List Int := (List.range 32).map (hw xs 64)
def HexText (xs : List Int) : Prop := xs.length = 64 ∧ ∀ i, i < 64 → 0 ≤ half xs i
theorem hw_zero (xs : List Int) : nums .u8 32 (fun _ => 0) = nums .u8 32 (hw xs 0) := nums_congr fun j _ => by
  unfold hw; rw [if_neg (by omega), if_neg (by omega)]
theorem hw_all (xs : List Int) : nums .u8 32 (hw xs 64) = nums .u8 32 (bf (hashOf xs)) := nums_congr fun j hj => by
  unfold hashOf bf; simp [List.getD, hj]
theorem hw_set (xs : List Int) (k : Nat) : (fun j => if j = k / 2 then (if k % 2 = 0 then half xs k else 16 * half xs (k - 1) + half xs k) else hw xs k j) = hw xs (k + 1) := by
  funext j
  unfold hw
  by_cases h : j = k / 2
  · subst h
    rw [if_pos rfl]
    by_cases h2 : k % 2 = 0
    · rw [if_pos h2, if_neg (by omega), if_pos (by omega), show 2 * (k / 2) = k by omega]
    · rw [if_neg h2, if_pos (by omega), show 2 * (k / 2) + 1 = k by omega, show 2 * (k / 2) = k - 1 by omega]
  · rw [if_neg h]
    have e1 : (2 * j + 1 < k) = (2 * j + 1 < k + 1) := propext (by omega)
    have e2 : (2 * j < k) = (2 * j < k + 1) := propext (by omega)
    simp only [e1, e2]
theorem hw_at {xs : List Int} (k : Nat) : hw xs k (k / 2) = if k % 2 = 0 then 0 else half xs (k - 1) := by
  unfold hw
  by_cases h2 : k % 2 = 0
  · rw [if_neg (by omega), if_neg (by omega), if_pos h2]
  · rw [if_neg (by omega), if_pos (by omega), if_neg h2, show 2 * (k / 2) = k - 1 by omega]
theorem u8_join (x y : Int) (x0 : 0 ≤ x) (x1 : x < 16) (y0 : 0 ≤ y) (y1 : y < 16) : bits .or .u8 (x * 16) y = 16 * x + y := by
  rw [bits_join .u8 8 (by decide) (fun n a b => by rw [IntKind.wrap_u8]; omega) 4 _ _ (by omega) (by omega) (by omega) y0 (by omega) (by omega)]; omega
theorem built_hash : Try.prog.built 23 [] = some (nums .u8 32 (fun _ => 0)) := by kernel_rfl
/-- 'Hash{}' -/
theorem build_hash {ops : Array Oper} {rest : List Oper} {o : Oper} {a : Act} {w : World} {Q : Exit → Act → World → Prop}
    (hgd : o.guard = none) (ho : o.op = .build 23 #[]) (h : wpList Try.prog ops Q rest (a.put o.dst (.agg (nums .u8 32 (fun _ => 0)))) w) : wpList Try.prog ops Q (o :: rest) a w := by
  have e : ((#[] : Array (Nat × Operand)).map fun (i, x) => (i, a.eval x)).toList = [] := by simp
  refine wpList_build hgd 23 #[] ho ?_ ?_
  · rw [e, built_hash]; rfl
  · rw [e, built_hash]; exact h
theorem results_hash2 {fn : Func} {p q : Tmp} (h : fn.results = #[.cell p 23, .tmp q]) (tmps : Array Value) (w : World) (g : Nat) (f : Nat → Int) (v : Value) (hp : tmps.getD p undef = .pointer (some ⟨g, 0, none⟩)) (hq : tmps.getD q undef = v) (hg : At 23 w g (nums .u8 32 f)) :
    (results fn tmps).run Try.prog w = .ok (.tuple #[.agg (nums .u8 32 f), v]) w := by
  have hp' : tmps[p]?.getD undef = .pointer (some ⟨g, 0, none⟩) := by simpa using hp
  have hq' : tmps[q]?.getD undef = v := by simpa using hq
  simp [results, h, hp', hq', asAddr, run_loadVar_row w g _ _ _ _ _ hg Try.underlying23 rfl (size_hash f)]
theorem strB_at (s : ByteArray) (k : Nat) (h : k < s.size) : (strB s).getD k 0 = (s[k].toNat : Int) := by
  have h' : k < s.data.size := h
  simp [strB, List.getD]
  rw [Array.getElem?_eq_getElem h']
  rfl
/-- What Parse answers at a text that is none. -/
def NoHash : Value := .tuple #[.agg (nums .u8 32 (fun _ => 0)), .int .i64 40]
set_option maxRecDepth 100000 in
theorem parse_len (s : ByteArray) (hs : s.size ≠ 64) (w : World) :
    Calls Try.prog 4 #[.string s] w fun e w' => e = .returned NoHash ∧ Below w.heap.size w w' := by
  have hz := (zero_of_info zero_hash).1
  have H1 := Lib.hid ((At.new 23 w (nums .u8 32 fun _ => 0)).alloc (.cells (nums .u8 32 fun _ => 0) 23))
  have hB : Below w.heap.size w ((w.alloc (.cells (nums .u8 32 fun _ => 0) 23)).alloc (.cells (nums .u8 32 fun _ => 0) 23)) := ((Below.refl _ w).alloc (Nat.le_refl _) _).alloc (by simp) _
  have HB := Lib.hid hB
  clear hB
  have hd : (((s.size : Nat) : Int) == 64) = false := by simp; omega
  go_enter Try.func4, Try.ntmps4
  go_wp2_with (first | (refine build_hash rfl rfl ?_) | (refine store_hash H1.out rfl rfl rfl rfl ?_))
  exact bodyPost_ret (v := NoHash) (results_hash2 rfl _ _ w.heap.size _ _ rfl rfl H1.out.row) rfl ⟨rfl, below_row HB.out (Nat.le_refl _) _⟩
set_option maxRecDepth 100000 in
set_option maxHeartbeats 1000000 in
theorem parse_64 (s : ByteArray) (hs : s.size = 64) (w : World) :
    Calls Try.prog 4 #[.string s] w fun e w' => ((HexText (strB s) ∧ e = .returned (.tuple #[.agg (nums .u8 32 (bf (hashOf (strB s)))), .int .i64 0])) ∨ (¬ HexText (strB s) ∧ e = .returned NoHash)) ∧ Below w.heap.size w w' := by
  have hz := (zero_of_info zero_hash).1
  have H1 := Lib.hid ((At.new 23 w (nums .u8 32 fun _ => 0)).alloc (.cells (nums .u8 32 fun _ => 0) 23))
  have hsb := strB_bytes s
  have hsl := strB_length s
  have HSB := Lib.hid hsb
  have HSL := Lib.hid hsl
  clear hsb hsl
  go_enter Try.func4, Try.ntmps4
  go_wp2
  go_loopw [13] (fun i wr => ∃ k : Nat, k ≤ 64 ∧ i = .int .i64 k ∧ (∀ j, j < k → 0 ≤ half (strB s) j) ∧ At 23 wr w.heap.size (nums .u8 32 fun _ => 0) ∧ At 23 wr (w.heap.size + 1) (nums .u8 32 (hw (strB s) k)) ∧ Below w.heap.size w wr) (fun i _ => 64 - (intOf i).toNat)
  case atStart =>
    have b3 := At.new 23 (w.alloc (.cells (nums .u8 32 fun _ => 0) 23)) (nums .u8 32 fun _ => 0)
    simp only [World.size_alloc] at b3
    exact ⟨0, by omega, rfl, fun j hj => absurd hj (by omega), H1.out, by rw [← hw_zero]; exact b3, ((Below.refl _ w).alloc (Nat.le_refl _) _).alloc (by simp) _⟩
  case round =>
    obtain ⟨k, hk, rfl, hall, h2, h3, hB⟩ := hrel
    by_cases hlt : k < 64
    · have hlt' : k < s.size := by omega
      have hx := strB_at s k hlt'
      have hy := half_bd HSB.out k
      have hix := fun w => index_any digs (s[k].toNat : Int) w
      rw [show Lib.indexByte digs.data.toList ((s[k].toNat : Nat) : Int).toNat.toUInt8 = half (strB s) k by unfold half dix; rw [hx]] at hix
      have c3 := h3.num (k / 2) (by omega)
      have f3 := h3.free (k / 2)
      have HS := Lib.hid (hw_set (strB s) k)
      have hat := hw_at (xs := strB s) k
      have q1 : k / 2 < 32 := by omega
      obtain ⟨y0, y1⟩ := hy
      by_cases hneg : half (strB s) k < 0
      · have HN := Lib.hid hneg
        rw [show half (strB s) k = -1 by omega] at hix
        have H2 := Lib.hid h2
        have HB := Lib.hid hB
        clear h2 h3 hB hat hall c3 f3 y0 y1 hx hneg
        go_wp2_with fail
        refine (hix _).mono ?_
        rintro e _ ⟨rfl, rfl⟩
        go_wp2_with (first | (refine build_hash rfl rfl ?_) | (refine store_hash H2.out rfl rfl rfl rfl ?_))
        exact bodyPost_ret (v := NoHash) (results_hash2 rfl _ _ w.heap.size _ _ rfl rfl H2.out.row) rfl ⟨.inr ⟨fun h => absurd (h.2 k hlt) (by have := HN.out; omega), rfl⟩, below_row HB.out (Nat.le_refl _) _⟩
      · have hxx : 0 ≤ hw (strB s) k (k / 2) ∧ hw (strB s) k (k / 2) < 16 := by
          rw [hat]; split
          · omega
          · have := hall (k - 1) (by omega); have := (half_bd HSB.out (k - 1)).2; omega
        have hnew : 16 * hw (strB s) k (k / 2) + half (strB s) k = (if k % 2 = 0 then half (strB s) k else 16 * half (strB s) (k - 1) + half (strB s) k) := by
          rw [hat]; split <;> omega
        have hall' : ∀ j, j < k + 1 → 0 ≤ half (strB s) j := fun j hj => by
          by_cases e : j = k
          · subst e; omega
          · exact hall j (by omega)
        have HA := Lib.hid hall'
        have hnn : 0 ≤ half (strB s) k := by omega
        have HNW := Lib.hid hnew
        obtain ⟨x0, x1⟩ := hxx
        generalize hw (strB s) k (k / 2) = x at *
        obtain ⟨y, hyy⟩ : ∃ y, half (strB s) k = y := ⟨_, rfl⟩
        rw [hyy] at hix hnn y1
        have hj := u8_join x y x0 x1 hnn y1
        have HY := Lib.hid hyy
        have H2 := Lib.hid h2
        have H3 := Lib.hid h3
        have HB := Lib.hid hB
        clear h2 h3 hat hall hall' hnew hx hneg y0 hB hyy
        go_wp2_with fail
        refine (hix _).mono ?_
        rintro e _ ⟨rfl, rfl⟩
        go_wp2
        go_roundw
        case rel =>
          have := H3.out.put (k / 2) (16 * x + y) (by omega)
          rw [← HY.out, HNW.out, HS.out] at this
          rw [← HY.out, HNW.out]
          exact ⟨k + 1, by omega, by go_num, HA.out, H2.out.other _ (by simp), this, HB.out.setCell (p := ⟨w.heap.size + 1, k / 2, none⟩) (by simp) _⟩
        case measure => simp [intOf]; omega
    · obtain rfl : k = 64 := by omega
      rw [hw_all] at h3
      have H2 := Lib.hid h2
      have H3 := Lib.hid h3
      have HB := Lib.hid hB
      have HA := Lib.hid hall
      clear h2 h3 hB hall
      go_wp2_with (first | (refine load_hash H3.out rfl rfl rfl ?_) | (refine store_hash H2.out rfl rfl rfl rfl ?_))
      exact bodyPost_ret (v := .tuple #[.agg (nums .u8 32 (bf (hashOf (strB s)))), .int .i64 0]) (results_hash2 rfl _ _ w.heap.size _ _ rfl rfl H2.out.row) rfl ⟨.inl ⟨⟨HSL.out.trans hs, HA.out⟩, rfl⟩, below_row HB.out (Nat.le_refl _) _⟩
end Go.Proofs.Ythjjlkoddmljbaa
