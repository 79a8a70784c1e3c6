/- The document's FromText. -/
import Derived.Test.YtkghiendflheiaaRRefU
import Derived.Test.YtkghiendflheiaaRFromT
set_option linter.unusedVariables false
namespace Go.Proofs.Ytkghiendflheiaa
open Go.RowKit Go.Sort Go.Shelf
theorem bytes_get (ls : List Int) (k : Nat) (hk : k < 2 * ls.length) : (bytesL ls).getD k 0 = if k % 2 = 1 then ls.getD (k / 2) 0 % 256 else ls.getD (k / 2) 0 / 256 := by
  induction ls generalizing k with
  | nil => simp at hk
  | cons x l ih =>
    have hb : bytesL (x :: l) = x / 256 :: x % 256 :: bytesL l := rfl
    rw [hb]
    match k, hk with
    | 0, _ => simp
    | 1, _ => simp
    | k + 2, hk =>
      have := ih k (by simp at hk; omega)
      rw [show (k + 2) % 2 = k % 2 by omega, show (k + 2) / 2 = k / 2 + 1 by omega]
      simpa using this
theorem take_snoc (l : List Int) (k : Nat) (h : k < l.length) : l.take (k + 1) = l.take k ++ [l.getD k 0] := by
  rw [List.take_add_one]
  simp [List.getD, h]
theorem str_snoc (xs : List Int) (c : Int) : strOfNums xs ++ strOfNums [c] = strOfNums (xs ++ [c]) := by
  simp [strOfNums, ByteArray.ext_iff]
set_option maxHeartbeats 1000000 in
theorem rfrom_cells (b off n c : Nat) (ls : List Int) (hn : ls.length = n) (hl : n ≤ 200) (hls : ∀ x ∈ ls, 0 ≤ x ∧ x < 65536) (w : World) (hb : b < w.heap.size) (hcs : ∀ j, j < n → w.cell? ⟨b, off + j, none⟩ = some (.int .u16 (ls.getD j 0))) :
    Calls Try.prog 12 #[.slice (some ⟨b, off, none⟩) n c] w fun e w' => e = .returned (.string (strOfNums (textL ls))) ∧ Below w.heap.size w w' := by
  have HC := Lib.hid hcs
  have HL := Lib.hid hls
  have HN := Lib.hid hn
  have hbl : (bytesL ls).length = 2 * n := by rw [bytesL_len, hn]
  have HBL := Lib.hid hbl
  clear hcs hls hn hbl
  have s0 : IntKind.i64.wrap (2 * (n : Int)) = 2 * (n : Int) := IntWalk.i64_in _ (by omega)
  have s0' : IntKind.i64.wrap ((n : Int) * 2) = (n : Int) * 2 := IntWalk.i64_in _ (by omega)
  go_enter Try.func12, Try.ntmps12
  go_wp2
  go_loopw [3, 4] (fun t i wr => ∃ (k : Nat) (zs : List Int), k ≤ 2 * n ∧ i = .int .i64 k ∧ t = .string (strOfNums zs) ∧ zs = (bytesL ls).take k ∧ (∀ y ∈ zs, y ≠ 0) ∧ Below w.heap.size w wr) (fun _ i _ => 2 * n - (RowKit.intOf i).toNat)
  case atStart => exact ⟨0, [], Nat.zero_le _, rfl, rfl, by simp, by simp, Below.refl _ _⟩
  case round =>
    obtain ⟨k, zs, hk, rfl, rfl, ht, hz, hB⟩ := hrel
    by_cases hlt : k < 2 * n
    · have hk2 : k / 2 < n := by omega
      have cl := (hB.cell (p := ⟨b, off + k / 2, none⟩) hb).trans (HC.out (k / 2) hk2)
      have hx : 0 ≤ ls.getD (k / 2) 0 ∧ ls.getD (k / 2) 0 < 65536 := HL.out _ (by simp [List.getD, HN.out, hk2])
      have hby := bytes_get ls k (by rw [HN.out]; exact hlt)
      have hsn := take_snoc (bytesL ls) k (by rw [HBL.out]; exact hlt)
      rw [← ht, hby] at hsn
      have htx : ∀ bs, (∃ rest, bytesL ls = bs ++ 0 :: rest) → (∀ y ∈ bs, y ≠ 0) → textL ls = bs := fun bs ⟨rest, h⟩ hq => textL_cut ls ls (List.prefix_refl _) bs rest h hq
      have hdr : bytesL ls = zs ++ (bytesL ls).getD k 0 :: (bytesL ls).drop (k + 1) := by
        rw [ht, show (bytesL ls).getD k 0 :: (bytesL ls).drop (k + 1) = (bytesL ls).drop k from (by have h0 : k < (bytesL ls).length := (by rw [HBL.out]; exact hlt); rw [List.drop_eq_getElem_cons h0]; simp [List.getD, h0]), List.take_append_drop]
      rw [hby] at hdr
      have HT := Lib.hid ht
      have HZ := Lib.hid hz
      have HB := Lib.hid hB
      have HS := Lib.hid hsn
      have HD := Lib.hid hdr
      have HX := Lib.hid htx
      clear ht hz hB hby hsn hdr htx
      generalize ls.getD (k / 2) 0 = x at *
      have q3 : (k : Int) < 2 * (n : Int) := by omega
      have hk2' : ((k / 2 : Nat) : Int) < (n : Int) := by omega
      by_cases h2 : k % 2 = 1
      · have h2z : ((k : Int) % 2 == 1) = true := by simp; omega
        have HD2 : Hid (bytesL ls = zs ++ (x % 256) :: (bytesL ls).drop (k + 1)) := by have := HD.out; rwa [if_pos h2] at this
        have HS2 : Hid ((bytesL ls).take (k + 1) = zs ++ [x % 256]) := by have := HS.out; rwa [if_pos h2] at this
        have hqv : x % 256 = x % 256 := by rfl
        rw [Hid, ← hqv] at HD2 HS2
        have HD2 := Lib.hid HD2
        have HS2 := Lib.hid HS2
        by_cases hz0 : x % 256 = 0
        · have hzz : (x % 256 == 0) = true := by simpa using hz0
          have hfin := HX.out zs ⟨_, by have := HD2.out; rwa [hz0] at this⟩ HZ.out
          have HF := Lib.hid hfin
          clear h2 hz0 hfin hqv
          go_wp2_with fail
          exact bodyPost_ret (v := .string (strOfNums zs)) (by simp [results, Try.results12, go_sem]) rfl ⟨by rw [HF.out], HB.out⟩
        · have hzz : (x % 256 == 0) = false := by simpa using hz0
          have bq : 0 ≤ x % 256 ∧ x % 256 < 256 := by rw [hqv]; omega
          have hbo := bys8_alloc (T := 5) wr [x % 256] (by intro y hy; simp at hy; subst hy; exact bq) #[.int .u8 (x % 256)] rfl 1 1 rfl (0, 0)
          have hcv := conv_bys8 hbo
          have hadd := str_snoc zs (x % 256)
          have hsmall : ¬ 9223372036854775807 < (strOfNums zs).size + (strOfNums [x % 256]).size := by
            rw [strOfNums_size, strOfNums_size, HT.out, List.length_take]
            simp only [List.length_cons, List.length_nil]
            omega
          have HZ0 := Lib.hid hz0
          clear hbo hz0 h2 hqv
          go_wp2_with fail
          go_roundw
          case rel => exact ⟨k + 1, _, by omega, by simp, rfl, HS2.out.symm, (by intro y hy; rcases List.mem_append.1 hy with h | h; exact HZ.out y h; simp at h; subst h; exact HZ0.out), HB.out.alloc HB.out.size _⟩
          case measure => simp [RowKit.intOf]; omega
      · have h2z : ((k : Int) % 2 == 1) = false := by simp; omega
        have HD2 : Hid (bytesL ls = zs ++ (x / 256) :: (bytesL ls).drop (k + 1)) := by have := HD.out; rwa [if_neg h2] at this
        have HS2 : Hid ((bytesL ls).take (k + 1) = zs ++ [x / 256]) := by have := HS.out; rwa [if_neg h2] at this
        have hqv : IntKind.u16.wrap (x.tdiv 256) % 256 = x / 256 := by rw [Int.tdiv_eq_ediv_of_nonneg hx.1, IntKind.wrap_u16]; omega
        rw [Hid, ← hqv] at HD2 HS2
        have HD2 := Lib.hid HD2
        have HS2 := Lib.hid HS2
        by_cases hz0 : IntKind.u16.wrap (x.tdiv 256) % 256 = 0
        · have hzz : (IntKind.u16.wrap (x.tdiv 256) % 256 == 0) = true := by simpa using hz0
          have hfin := HX.out zs ⟨_, by have := HD2.out; rwa [hz0] at this⟩ HZ.out
          have HF := Lib.hid hfin
          clear h2 hz0 hfin hqv
          go_wp2_with fail
          exact bodyPost_ret (v := .string (strOfNums zs)) (by simp [results, Try.results12, go_sem]) rfl ⟨by rw [HF.out], HB.out⟩
        · have hzz : (IntKind.u16.wrap (x.tdiv 256) % 256 == 0) = false := by simpa using hz0
          have bq : 0 ≤ IntKind.u16.wrap (x.tdiv 256) % 256 ∧ IntKind.u16.wrap (x.tdiv 256) % 256 < 256 := by rw [hqv]; omega
          have hbo := bys8_alloc (T := 5) wr [IntKind.u16.wrap (x.tdiv 256) % 256] (by intro y hy; simp at hy; subst hy; exact bq) #[.int .u8 (IntKind.u16.wrap (x.tdiv 256) % 256)] rfl 1 1 rfl (0, 0)
          have hcv := conv_bys8 hbo
          have hadd := str_snoc zs (IntKind.u16.wrap (x.tdiv 256) % 256)
          have hsmall : ¬ 9223372036854775807 < (strOfNums zs).size + (strOfNums [IntKind.u16.wrap (x.tdiv 256) % 256]).size := by
            rw [strOfNums_size, strOfNums_size, HT.out, List.length_take]
            simp only [List.length_cons, List.length_nil]
            omega
          have HZ0 := Lib.hid hz0
          clear hbo hz0 h2 hqv
          go_wp2_with fail
          go_roundw
          case rel => exact ⟨k + 1, _, by omega, by simp, rfl, HS2.out.symm, (by intro y hy; rcases List.mem_append.1 hy with h | h; exact HZ.out y h; simp at h; subst h; exact HZ0.out), HB.out.alloc HB.out.size _⟩
          case measure => simp [RowKit.intOf]; omega
    · obtain rfl : k = 2 * n := by omega
      have hjz : ((2 * n : Nat) : Int) = 2 * (n : Int) := by omega
      have hfin : textL ls = zs := by
        have e : zs = bytesL ls := by rw [ht, List.take_of_length_le (by rw [HBL.out]; omega)]
        rw [e]
        exact textL_all ls (by rw [← e]; exact hz)
      have HF := Lib.hid hfin
      have HB := Lib.hid hB
      clear ht hz hB hfin
      go_wp2
      trace_state
      exact bodyPost_ret (v := .string (strOfNums zs)) (by simp [results, Try.results12, go_sem]) rfl ⟨by rw [HF.out], HB.out⟩
end Go.Proofs.Ytkghiendflheiaa
