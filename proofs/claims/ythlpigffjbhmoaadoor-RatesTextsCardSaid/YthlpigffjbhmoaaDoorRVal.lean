/- The document's value. -/
import Derived.Test.YthlpigffjbhmoaaDoorEVerM
import Derived.Test.YthlpigffjbhmoaaDoorEFew
set_option linter.unusedVariables false
set_option linter.unusedSimpArgs false
namespace Go.Proofs.YthlpigffjbhmoaaDoor
open Go.RowKit Go.Shelf
def valN (l : List UInt8) : Nat := l.foldl (fun n c => n * 10 + (c.toNat - 48)) 0
theorem valN_snoc (l : List UInt8) (c : UInt8) : valN (l ++ [c]) = valN l * 10 + (c.toNat - 48) := by simp [valN]
theorem valN_dec : ∀ (n u : Nat), u ≤ n → valN (Lib.decDigits u) = u := by
  intro n
  induction n with
  | zero => intro u hu; have : u = 0 := by omega
            subst this; rw [dec_one (by omega)]; rfl
  | succ n ih =>
    intro u hu
    by_cases h : u < 10
    · rw [dec_one h]
      show (0 * 10 + ((UInt8.ofNat (48 + u)).toNat - 48)) = u
      rw [dig_nat u h]; omega
    · rw [dec_more h, valN_snoc, ih (u / 10) (by omega), dig_nat (u % 10) (Nat.mod_lt _ (by omega))]
      omega
/-- What value answers of l. -/
def ValIs (l : List UInt8) (x : Int) : Prop := (x = -1 ∧ (l.length = 0 ∨ 15 < l.length ∨ ∃ c ∈ l, ¬ IsDig c)) ∨ (x = valN l ∧ l.length ≤ 15)
theorem val_itoa {p x : Int} (h : 0 ≤ p) (h' : p < 253402300800) (hx : ValIs (Lib.itoa p) x) : x = p := by
  obtain ⟨u, rfl⟩ : ∃ u : Nat, p = (u : Int) := ⟨p.toNat, by omega⟩
  have hl := itoa_len12 h h'
  rw [Lib.itoa_nonneg] at hx hl
  obtain ⟨hne, hd⟩ := dec_digs u u (Nat.le_refl _)
  rcases hx with ⟨_, e | e | ⟨c, hc, hn⟩⟩ | ⟨e, _⟩
  · exact absurd (List.eq_nil_of_length_eq_zero e) hne
  · omega
  · exact absurd (hd c hc) hn
  · rw [e, valN_dec u u (Nat.le_refl _)]
set_option maxRecDepth 100000 in
set_option maxHeartbeats 4000000 in
theorem value_any (s : ByteArray) (hs : s.size ≤ 1000000) (w : World) : Calls Tryd.prog 49 #[.string s] w fun e w' => (∃ x, e = .returned (.int .i64 x) ∧ ValIs s.data.toList x) ∧ Below w.heap.size w w' := by
  have hll : s.data.toList.length = s.size := by simp
  by_cases h0 : s.size = 0
  · have h0i : ((s.size : Int) == 0) = true := by simp [h0]
    have HR := Lib.hid (show ValIs s.data.toList (-1) from .inl ⟨rfl, .inl (by rw [hll, h0])⟩)
    clear hll h0
    go_enter Tryd.func49, Tryd.ntmps49
    go_wp2
    go_ret
    exact ⟨⟨_, rfl, HR.out⟩, Below.refl _ _⟩
  have h0i : ((s.size : Int) == 0) = false := by rw [beq_eq_false_iff_ne]; omega
  by_cases h15 : 15 < s.size
  · have h15i : (15 : Int) < s.size := by omega
    have HR := Lib.hid (show ValIs s.data.toList (-1) from .inl ⟨rfl, .inr (.inl (by rw [hll]; exact h15))⟩)
    clear hll h0
    go_enter Tryd.func49, Tryd.ntmps49
    go_wp2
    go_ret
    exact ⟨⟨_, rfl, HR.out⟩, Below.refl _ _⟩
  have h15i : ¬ (15 : Int) < s.size := by omega
  have HLL := Lib.hid hll
  clear h0
  go_enter Tryd.func49, Tryd.ntmps49
  go_wp2
  go_loopw [3, 4] (fun v i wr => ∃ k N : Nat, k ≤ s.size ∧ i = .int .i64 k ∧ v = .int .i64 N ∧ N < 10 ^ k ∧ valN (s.data.toList.take k) = N ∧ Below w.heap.size w wr) (fun _ i _ => (s.size - intOf i).toNat)
  case atStart => exact ⟨0, 0, Nat.zero_le _, rfl, rfl, by decide, rfl, Below.refl _ _⟩
  case round =>
    obtain ⟨k, N, hk, rfl, rfl, hN, hval, hb⟩ := hrel
    have HV := Lib.hid hval
    have HB := Lib.hid hb
    clear hval hb
    by_cases hlt : k < s.size
    · have hlti : (k : Int) < s.size := by omega
      have hN15 : N < 1000000000000000 := Nat.lt_of_lt_of_le hN (show 10 ^ k ≤ 10 ^ 15 from Nat.pow_le_pow_right (by omega) (by omega))
      have HN := Lib.hid hN
      have hget : s.data.toList[k]? = some s[k] := by rw [List.getElem?_eq_getElem (by rw [hll]; exact hlt)]; simp [ByteArray.getElem_eq_getElem_data]
      have HS := Lib.hid (show valN (s.data.toList.take (k + 1)) = N * 10 + (s[k].toNat - 48) by rw [List.take_add_one, hget]; simp only [Option.toList_some]; rw [valN_snoc, HV.out])
      have HMEM := Lib.hid (List.mem_of_getElem? hget)
      have hb256 := s[k].toNat_lt
      clear hget hN
      by_cases h48 : s[k].toNat < 48
      · have h48i : (s[k].toNat : Int) < 48 := by omega
        have HR := Lib.hid (show ValIs s.data.toList (-1) from .inl ⟨rfl, .inr (.inr ⟨_, HMEM.out, fun q => by have := q.1; omega⟩)⟩)
        go_wp2
        go_ret
        exact ⟨⟨_, rfl, HR.out⟩, HB.out⟩
      · have h48i : ¬ (s[k].toNat : Int) < 48 := by omega
        by_cases h57 : 57 < s[k].toNat
        · have h57i : (57 : Int) < s[k].toNat := by omega
          have HR := Lib.hid (show ValIs s.data.toList (-1) from .inl ⟨rfl, .inr (.inr ⟨_, HMEM.out, fun q => by have := q.2; omega⟩)⟩)
          go_wp2
          go_ret
          exact ⟨⟨_, rfl, HR.out⟩, HB.out⟩
        · have h57i : ¬ (57 : Int) < s[k].toNat := by omega
          obtain ⟨M, hM⟩ : ∃ M, N * 10 + (s[k].toNat - 48) = M := ⟨_, rfl⟩
          have hMi : (N : Int) * 10 + s[k].toNat - 48 = M := by omega
          have HMN := Lib.hid (show M < 10 ^ (k + 1) by rw [Nat.pow_succ]; have := HN.out; omega)
          rw [hM] at HS
          go_wp2
          go_roundw
          case rel => exact ⟨k + 1, M, by omega, by go_num, by first | rfl | (rw [← hMi]) | go_num, HMN.out, HS.out, HB.out⟩
          case measure => first | (simp [intOf]; done) | (simp [intOf]; omega)
    · have hke : k = s.size := by omega
      have hnl : ¬ ((k : Int) < s.size) := by omega
      have HR := Lib.hid (show ValIs s.data.toList N from .inr ⟨by rw [← HV.out, List.take_of_length_le (by rw [hll]; omega)], by rw [hll]; omega⟩)
      clear hke
      go_wp2
      go_ret
      exact ⟨⟨_, rfl, HR.out⟩, HB.out⟩
end Go.Proofs.YthlpigffjbhmoaaDoor
