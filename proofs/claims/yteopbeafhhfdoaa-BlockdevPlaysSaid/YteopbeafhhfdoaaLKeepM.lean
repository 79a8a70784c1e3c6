/- What a sector may hold after a crash. -/
import Derived.Test.YteopbeafhhfdoaaLDownM
set_option linter.unusedVariables false
set_option linter.unusedSimpArgs false
namespace Go.Proofs.Yteopbeafhhfdoaa
open Go.RowKit
/-- What a sector held, and the writes to it. -/
def hist (s : List (List Int)) (c : List (Int × List Int)) (n : Nat) : List (List Int) := s.getD n [] :: (c.filter (fun x => decide (x.1 = (n : Int)))).map (·.2)
theorem put_at (s : List (List Int)) (m : Int) (L : List Int) (k n : Nat) (hm : m.toNat < s.length) : (putS s m L k).getD n [] = if n = m.toNat then L.take k ++ (s.getD m.toNat []).drop k else s.getD n [] := by
  unfold putS
  by_cases h : n = m.toNat
  · rw [if_pos h, h]; simp [List.getD, hm]
  · rw [if_neg h]
    simp only [List.getD]
    rw [List.getElem?_set_ne (fun e => h e.symm)]
theorem take_all {L M : List Int} (hL : L.length = 128) (hM : M.length = 128) : L.take 128 ++ M.drop 128 = L := by
  rw [List.take_of_length_le (by omega), List.drop_eq_nil_of_le (by omega), List.append_nil]
structure Fit (s : List (List Int)) (c : List (Int × List Int)) : Prop where
  ss : ∀ n, n < s.length → (s.getD n []).length = 128
  c : ∀ x ∈ c, 0 ≤ x.1 ∧ x.1 < s.length ∧ x.2.length = 128
theorem Fit.put {s : List (List Int)} {x : Int × List Int} {c : List (Int × List Int)} (h : Fit s (x :: c)) (k : Nat) (hk : k ≤ 128) : Fit (putS s x.1 x.2 k) c := by
  obtain ⟨h0, h1, h2⟩ := h.c x List.mem_cons_self
  refine ⟨fun n hn => ?_, fun y hy => by rw [putS_len]; exact h.c y (List.mem_cons_of_mem _ hy)⟩
  rw [putS_len] at hn
  rw [put_at _ _ _ _ _ (by omega)]
  split
  · rw [List.length_append, List.length_take, List.length_drop, h2, h.ss _ (by omega)]; omega
  · exact h.ss n hn
theorem Fit.tail {s : List (List Int)} {x : Int × List Int} {c : List (Int × List Int)} (h : Fit s (x :: c)) : Fit s c := ⟨h.ss, fun y hy => h.c y (List.mem_cons_of_mem _ hy)⟩
/-- A sector of which no write is torn holds what it held, or a write. -/
theorem hist_mem (len : Nat → Nat) (n : Nat) : ∀ (c : List (Int × List Int)) (i : Nat) (s : List (List Int)) (h : List (List Int)), Fit s c → s.getD n [] ∈ h → (∀ j x, c[j]? = some x → x.1 = (n : Int) → len (i + j) = 0 ∨ len (i + j) = 128) → (∀ k, len k ≤ 128) →
    (putAll (applied len i c) s).getD n [] ∈ h ++ (c.filter (fun x => decide (x.1 = (n : Int)))).map (·.2)
  | [], i, s, h, _, hm, _, _ => by simpa [applied, putAll] using hm
  | x :: c, i, s, h, hf, hm, hw, hl => by
    have hx := hf.c x List.mem_cons_self
    have hrest : ∀ j y, c[j]? = some y → y.1 = (n : Int) → len (i + 1 + j) = 0 ∨ len (i + 1 + j) = 128 := fun j y hy he => by
      have := hw (j + 1) y (by simpa using hy) he
      rwa [show i + (j + 1) = i + 1 + j by omega] at this
    unfold applied
    by_cases h0 : len i = 0
    · rw [if_pos h0]
      have := hist_mem len n c (i + 1) s h hf.tail hm hrest hl
      rcases List.mem_append.1 this with q | q
      · exact List.mem_append_left _ q
      · refine List.mem_append_right _ ?_
        obtain ⟨y, hy, e⟩ := List.mem_map.1 q
        exact List.mem_map.2 ⟨y, List.mem_filter.2 ⟨List.mem_cons_of_mem _ (List.mem_filter.1 hy).1, (List.mem_filter.1 hy).2⟩, e⟩
    · rw [if_neg h0]
      show (putAll _ (putS s x.1 x.2 (len i))).getD n [] ∈ _
      by_cases hn : x.1 = (n : Int)
      · have h128 : len i = 128 := by
          rcases hw 0 x rfl hn with q | q
          · exact absurd q h0
          · exact q
        have hput : (putS s x.1 x.2 (len i)).getD n [] = x.2 := by
          rw [put_at _ _ _ _ _ (by omega), if_pos (by omega), h128]
          exact take_all hx.2.2 (hf.ss _ (by omega))
        have := hist_mem len n c (i + 1) (putS s x.1 x.2 (len i)) (h ++ [x.2]) (hf.put _ (hl _)) (by rw [hput]; simp) hrest hl
        rw [List.append_assoc] at this
        rw [List.filter_cons_of_pos (by simpa using hn), List.map_cons]
        exact this
      · have hput : (putS s x.1 x.2 (len i)).getD n [] = s.getD n [] := by
          rw [put_at _ _ _ _ _ (by omega), if_neg (by omega)]
        have := hist_mem len n c (i + 1) (putS s x.1 x.2 (len i)) h (hf.put _ (hl _)) (by rw [hput]; exact hm) hrest hl
        rw [List.filter_cons_of_neg (by simpa using hn)]
        exact this
/-- Where all writes are applied whole, the last one stays. -/
theorem hist_last (len : Nat → Nat) (n : Nat) : ∀ (c : List (Int × List Int)) (i : Nat) (s : List (List Int)), Fit s c → (∀ j, j < c.length → len (i + j) = 128) → n < s.length →
    (putAll (applied len i c) s).getD n [] = (hist s c n).getD ((hist s c n).length - 1) []
  | [], i, s, _, _, _ => by simp [applied, putAll, hist]
  | x :: c, i, s, hf, hw, hns => by
    have hx := hf.c x List.mem_cons_self
    have h128 : len i = 128 := hw 0 (by simp)
    unfold applied
    rw [if_neg (by omega)]
    show (putAll _ (putS s x.1 x.2 (len i))).getD n [] = _
    rw [hist_last len n c (i + 1) (putS s x.1 x.2 (len i)) (hf.put _ (by omega)) (fun j hj => by have := hw (j + 1) (by simpa using hj); rwa [show i + (j + 1) = i + 1 + j by omega] at this) (by rw [putS_len]; exact hns)]
    unfold hist
    rw [put_at _ _ _ _ _ (by omega), h128]
    by_cases hn : x.1 = (n : Int)
    · rw [if_pos (by omega), take_all hx.2.2 (hf.ss _ (by omega)), List.filter_cons_of_pos (by simpa using hn), List.map_cons]
      simp only [List.length_cons, Nat.add_sub_cancel]
      rw [List.getD_cons_succ]
    · rw [if_neg (by omega), List.filter_cons_of_neg (by simpa using hn)]
/-- Without a write it stays as it was. -/
theorem hist_none (len : Nat → Nat) (n : Nat) : ∀ (c : List (Int × List Int)) (i : Nat) (s : List (List Int)), Fit s c → (∀ k, len k ≤ 128) → (hist s c n).length = 1 → (putAll (applied len i c) s).getD n [] = s.getD n []
  | [], i, s, _, _, _ => rfl
  | x :: c, i, s, hf, hl, h1 => by
    have hx := hf.c x List.mem_cons_self
    have hn : ¬ x.1 = (n : Int) := fun e => by
      unfold hist at h1
      rw [List.filter_cons_of_pos (by simpa using e)] at h1
      simp at h1
    have h1' : (hist s c n).length = 1 := by
      unfold hist at h1 ⊢
      rwa [List.filter_cons_of_neg (by simpa using hn)] at h1
    unfold applied
    split
    · exact hist_none len n c (i + 1) s hf.tail hl h1'
    · show (putAll _ (putS s x.1 x.2 (len i))).getD n [] = _
      have hput : (putS s x.1 x.2 (len i)).getD n [] = s.getD n [] := by rw [put_at _ _ _ _ _ (by omega), if_neg (by omega)]
      rw [hist_none len n c (i + 1) (putS s x.1 x.2 (len i)) (hf.put _ (hl _)) hl (by unfold hist at h1' ⊢; rw [hput]; exact h1'), hput]
theorem hist_snoc (s : List (List Int)) (c : List (Int × List Int)) (m : Int) (L : List Int) (n : Nat) : hist s (c ++ [(m, L)]) n = if m = (n : Int) then hist s c n ++ [L] else hist s c n := by
  unfold hist
  rw [List.filter_append]
  by_cases h : m = (n : Int)
  · rw [if_pos h, List.filter_cons_of_pos (by simpa using h)]; simp
  · rw [if_neg h, List.filter_cons_of_neg (by simpa using h)]; simp
theorem leftN_whole (K : List Int) (t x : Int) (k : Nat) (h : (k : Int) ≠ t) : leftN K t x k = 0 ∨ leftN K t x k = 128 := by
  unfold leftN
  rw [if_neg h]
  split
  · exact .inr rfl
  · exact .inl rfl
theorem leftN_full (k : Nat) (hk : k < 320) : leftN (List.replicate 40 255) (-1) 0 k = 128 := by
  unfold leftN
  rw [if_neg (by omega), if_pos]
  refine ⟨by simp; omega, ?_⟩
  have e : (List.replicate 40 (255 : Int)).getD (k / 8) 0 = 255 := by
    have h40 : ∀ i : Fin 40, (List.replicate 40 (255 : Int)).getD i.val 0 = 255 := by decide
    exact h40 ⟨k / 8, by omega⟩
  rw [e]
  have h8 : ∀ r : Fin 8, (255 : Int).toNat / 2 ^ r.val % 2 = 1 := by decide
  exact h8 ⟨k % 8, Nat.mod_lt _ (by decide)⟩
theorem Dv.Ok.fit {d : Dv} (h : d.Ok) : Fit d.safe d.cache := ⟨fun n hn => (secs_get h.secs hn).1, fun x hx => ⟨(h.wr x hx).1, (h.wr x hx).2.1, (h.wr x hx).2.2.1⟩⟩
end Go.Proofs.Yteopbeafhhfdoaa
