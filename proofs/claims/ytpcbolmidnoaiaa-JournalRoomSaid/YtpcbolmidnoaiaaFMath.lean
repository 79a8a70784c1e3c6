/- Frames: records with their length and their sum, as lists of numbers. -/
import Derived.Test.YtpcbolmidnoaiaaCSum
set_option linter.unusedVariables false
set_option linter.unusedSimpArgs false
namespace Go.Proofs.Ytpcbolmidnoaiaa
theorem bitsL_append (xs ys : List Int) : bitsL (xs ++ ys) = bitsL xs ++ bitsL ys := by
  unfold bitsL
  rw [List.length_append, Nat.mul_add, upto_add]
  congr 1
  · apply upto_congr
    intro j hj
    unfold bitAt
    simp only [List.getD]; rw [List.getElem?_append_left (by omega)]
  · apply upto_congr
    intro j hj
    unfold bitAt
    rw [show (8 * xs.length + j) / 8 = xs.length + j / 8 by omega, show (8 * xs.length + j) % 8 = j % 8 by omega]
    simp only [List.getD]; rw [List.getElem?_append_right (by omega), Nat.add_sub_cancel_left]
theorem sum32_app (s : Nat) (xs ys : List Int) : sum32 s (xs ++ ys) = sum32 (sum32 s xs) ys := by
  unfold sum32; rw [bitsL_append, run_append, xx]
def Byt (L : List Int) : Prop := ∀ x ∈ L, 0 ≤ x ∧ x < 256
theorem Byt.app {L M : List Int} (h : Byt L) (k : Byt M) : Byt (L ++ M) := fun x hx => (List.mem_append.1 hx).elim (h x) (k x)
theorem Byt.drop {L : List Int} (h : Byt L) (n : Nat) : Byt (L.drop n) := fun x hx => h x (List.mem_of_mem_drop hx)
theorem Byt.take {L : List Int} (h : Byt L) (n : Nat) : Byt (L.take n) := fun x hx => h x (List.mem_of_mem_take hx)
def RecL (L : List Int) : Prop := 1 ≤ L.length ∧ L.length ≤ 4096
instance (L : List Int) : Decidable (RecL L) := by unfold RecL; infer_instance
def len2 (n : Nat) : List Int := [((n / 256 : Nat) : Int), ((n % 256 : Nat) : Int)]
def be4 (s : Nat) : List Int := [((s / 16777216 : Nat) : Int), ((s / 65536 % 256 : Nat) : Int), ((s / 256 % 256 : Nat) : Int), ((s % 256 : Nat) : Int)]
def crcOf (L : List Int) : Nat := sum32 0 (len2 L.length ++ L)
def frameL (L : List Int) : List Int := len2 L.length ++ be4 (crcOf L) ++ L
theorem crcOf_lt (L : List Int) : crcOf L < 4294967296 := sum32_lt 0 _ (by decide)
theorem frameL_len (L : List Int) : (frameL L).length = 6 + L.length := by simp [frameL, len2, be4]; omega
theorem len2_byt {n : Nat} (h : n ≤ 4096) : Byt (len2 n) := by
  intro x hx
  simp [len2] at hx
  rcases hx with rfl | rfl <;> omega
theorem be4_byt {s : Nat} (h : s < 4294967296) : Byt (be4 s) := by
  intro x hx
  simp [be4] at hx
  rcases hx with rfl | rfl | rfl | rfl <;> omega
theorem frameL_byt {L : List Int} (h : Byt L) (hL : L.length ≤ 4096) : Byt (frameL L) := ((len2_byt hL).app (be4_byt (crcOf_lt L))).app h
def num2 (b : List Int) : Nat := (b.getD 0 0).toNat * 256 + (b.getD 1 0).toNat
def num4 (b : List Int) : Nat := (((b.getD 2 0).toNat * 256 + (b.getD 3 0).toNat) * 256 + (b.getD 4 0).toNat) * 256 + (b.getD 5 0).toNat
def recOf (b : List Int) : List Int := (b.drop 6).take (num2 b)
/-- Why a list has no frame ahead; 0: it has one. -/
def whyOf (b : List Int) : Nat :=
  if b.length < 2 then 1 else if ¬ (1 ≤ num2 b ∧ num2 b ≤ 4096) then 2 else if b.length < 6 + num2 b then 1 else
  if sum32 (sum32 0 (b.take 2)) (recOf b) ≠ num4 b then 3 else 0
theorem frame_parts (L rest : List Int) : num2 (frameL L ++ rest) = L.length ∧ num4 (frameL L ++ rest) = crcOf L ∧ recOf (frameL L ++ rest) = L ∧ (frameL L ++ rest).take 2 = len2 L.length ∧ (frameL L ++ rest).drop (6 + L.length) = rest := by
  have h2 : num2 (frameL L ++ rest) = L.length := by simp [num2, frameL, len2, be4]; omega
  have hc := crcOf_lt L
  refine ⟨h2, ?_, ?_, ?_, ?_⟩
  · generalize hs : crcOf L = s at hc
    simp [num4, frameL, len2, be4, hs]
    omega
  · unfold recOf
    rw [h2]
    simp [frameL, len2, be4]
  · simp [frameL, len2, be4]
  · rw [List.drop_append_of_le_length (by rw [frameL_len]; omega), List.drop_of_length_le (by rw [frameL_len]; omega), List.nil_append]
theorem why_frame {L : List Int} (h : RecL L) (rest : List Int) : whyOf (frameL L ++ rest) = 0 := by
  obtain ⟨h1, h2, h3, h4, _⟩ := frame_parts L rest
  unfold whyOf
  rw [h1, h2, h3, h4, ← sum32_app]
  have hl : (frameL L ++ rest).length = 6 + L.length + rest.length := by rw [List.length_append, frameL_len]
  rw [hl, if_neg (by omega), if_neg (by have := h; unfold RecL at this; omega), if_neg (by omega), if_neg (by simp [crcOf])]
theorem head6 {b : List Int} (hb : Byt b) (hl : 6 ≤ b.length) : b = len2 (num2 b) ++ be4 (num4 b) ++ b.drop 6 := by
  match b, hl with
  | x0 :: x1 :: x2 :: x3 :: x4 :: x5 :: t, _ =>
    have h0 := hb x0 (by simp)
    have h1 := hb x1 (by simp)
    have h2 := hb x2 (by simp)
    have h3 := hb x3 (by simp)
    have h4 := hb x4 (by simp)
    have h5 := hb x5 (by simp)
    simp [num2, num4, len2, be4]
    omega
/-- What begins with a frame. -/
theorem frame_of_why {b : List Int} (hb : Byt b) (h : whyOf b = 0) : RecL (recOf b) ∧ (recOf b).length = num2 b ∧ 6 + num2 b ≤ b.length ∧ b = frameL (recOf b) ++ b.drop (6 + num2 b) := by
  unfold whyOf at h
  split at h
  · cases h
  rename_i h1
  split at h
  · cases h
  rename_i h2
  split at h
  · cases h
  rename_i h3
  split at h
  · cases h
  rename_i h4
  have h2' : 1 ≤ num2 b ∧ num2 b ≤ 4096 := Classical.byContradiction h2
  have h4' : sum32 (sum32 0 (b.take 2)) (recOf b) = num4 b := Classical.byContradiction h4
  have hr : (recOf b).length = num2 b := by unfold recOf; rw [List.length_take, List.length_drop]; omega
  have e := head6 hb (by omega)
  refine ⟨by unfold RecL; omega, hr, by omega, ?_⟩
  have ht : b.take 2 = len2 (num2 b) := by
    have := congrArg (List.take 2) e
    rw [this]
    simp [len2]
  rw [ht, ← sum32_app] at h4'
  have hd : b.drop 6 = recOf b ++ b.drop (6 + num2 b) := by
    unfold recOf
    rw [← List.drop_drop, List.take_append_drop]
  unfold frameL crcOf
  rw [hr, h4', List.append_assoc, ← hd]
  exact e
/-- A list is the frames of l, and a tail behind them, which is none or has no frame ahead. -/
structure Scans (b : List Int) (l : List (List Int)) (rest : List Int) : Prop where
  eq : b = (l.map frameL).flatten ++ rest
  recs : ∀ L ∈ l, RecL L
  tail : rest = [] ∨ whyOf rest ≠ 0
theorem Scans.cons {b : List Int} {l : List (List Int)} {rest : List Int} {L : List Int} (h : Scans b l rest) (hL : RecL L) : Scans (frameL L ++ b) (L :: l) rest :=
  ⟨by rw [h.eq]; simp, fun M hM => (List.mem_cons.1 hM).elim (fun e => e ▸ hL) (h.recs M), h.tail⟩
theorem scans_any : ∀ (n : Nat) (b : List Int), b.length ≤ n → Byt b → ∃ l rest, Scans b l rest
  | 0, b, hn, _ => ⟨[], [], by rw [List.eq_nil_of_length_eq_zero (Nat.le_zero.1 hn)]; rfl, by simp, .inl rfl⟩
  | n + 1, b, hn, hb => by
    by_cases hw : whyOf b = 0
    · obtain ⟨h1, h2, h3, h4⟩ := frame_of_why hb hw
      obtain ⟨l, rest, h⟩ := scans_any n (b.drop (6 + num2 b)) (by rw [List.length_drop]; omega) (hb.drop _)
      have := h.cons h1
      rw [← h4] at this
      exact ⟨_, _, this⟩
    · exact ⟨[], b, rfl, by simp, .inr hw⟩
theorem Scans.unique : ∀ {l m : List (List Int)} {b rest rest' : List Int}, Scans b l rest → Scans b m rest' → l = m ∧ rest = rest'
  | [], [], b, rest, rest', h, k => by
    have h1 := h.eq
    have h2 := k.eq
    simp at h1 h2
    exact ⟨rfl, h1.symm.trans h2⟩
  | [], M :: m, b, rest, rest', h, k => by
    have h1 := h.eq
    have h2 := k.eq
    simp at h1 h2
    have hw := why_frame (k.recs M (by simp)) ((m.map frameL).flatten ++ rest')
    rw [← h2, h1] at hw
    rcases h.tail with e | e
    · rw [e] at h1
      rw [h1] at h2
      have := congrArg List.length h2
      rw [List.length_append, frameL_len] at this
      simp at this
      omega
    · exact absurd hw e
  | L :: l, [], b, rest, rest', h, k => by
    have h1 := h.eq
    have h2 := k.eq
    simp at h1 h2
    have hw := why_frame (h.recs L (by simp)) ((l.map frameL).flatten ++ rest)
    rw [← h1, h2] at hw
    rcases k.tail with e | e
    · rw [e] at h2
      rw [h2] at h1
      have := congrArg List.length h1
      rw [List.length_append, frameL_len] at this
      simp at this
      omega
    · exact absurd hw e
  | L :: l, M :: m, b, rest, rest', h, k => by
    have h1 := h.eq
    have h2 := k.eq
    simp at h1 h2
    obtain ⟨_, _, p1, _, p2⟩ := frame_parts L ((l.map frameL).flatten ++ rest)
    obtain ⟨_, _, q1, _, q2⟩ := frame_parts M ((m.map frameL).flatten ++ rest')
    rw [← h1, h2, q1] at p1
    subst p1
    rw [← h1] at p2
    rw [← h2] at q2
    obtain ⟨e1, e2⟩ := Scans.unique (b := b.drop (6 + M.length)) (l := l) (m := m) ⟨p2, fun L' hL' => h.recs L' (List.mem_cons_of_mem _ hL'), h.tail⟩ ⟨q2, fun L' hL' => k.recs L' (List.mem_cons_of_mem _ hL'), k.tail⟩
    exact ⟨by rw [e1], e2⟩
theorem scans_all {l : List (List Int)} (h : ∀ L ∈ l, RecL L) : Scans (l.map frameL).flatten l [] := ⟨by simp, h, .inl rfl⟩
theorem scans_more {l : List (List Int)} (h : ∀ L ∈ l, RecL L) {more : List Int} {l' : List (List Int)} {rest : List Int} (k : Scans more l' rest) : Scans ((l.map frameL).flatten ++ more) (l ++ l') rest :=
  ⟨by rw [k.eq]; simp, fun L hL => (List.mem_append.1 hL).elim (h L) (k.recs L), k.tail⟩
/-- A frame that is cut, but not to nothing, has no frame ahead. -/
theorem cut_why {L : List Int} (hL : RecL L) {n : Nat} (h0 : 0 < n) (hn : n < 6 + L.length) : whyOf ((frameL L).take n) ≠ 0 := by
  have hl : ((frameL L).take n).length = n := by rw [List.length_take, frameL_len]; omega
  intro he
  unfold whyOf at he
  rw [hl] at he
  split at he
  · cases he
  rename_i h2
  have hnum : num2 ((frameL L).take n) = L.length := by
    obtain ⟨m, rfl⟩ : ∃ m, n = m + 2 := ⟨n - 2, by omega⟩
    have := (frame_parts L []).1
    rw [List.append_nil] at this
    rw [← this]
    unfold num2 frameL len2
    simp
  rw [hnum, if_neg (by have := hL; unfold RecL at this; omega), if_pos hn] at he
  cases he
/-- How many of the first records are whole in the first n bytes. -/
def wholeN : List (List Int) → Nat → Nat
  | [], _ => 0
  | L :: l, n => if 6 + L.length ≤ n then wholeN l (n - (6 + L.length)) + 1 else 0
def sizeN (l : List (List Int)) : Nat := (l.map frameL).flatten.length
theorem sizeN_cons (L : List Int) (l : List (List Int)) : sizeN (L :: l) = 6 + L.length + sizeN l := by simp [sizeN, frameL_len]
theorem scans_cut : ∀ (l : List (List Int)), (∀ L ∈ l, RecL L) → ∀ n, n ≤ sizeN l → ∃ rest, Scans ((l.map frameL).flatten.take n) (l.take (wholeN l n)) rest
  | [], _, n, hn => ⟨[], by simp, by simp, .inl rfl⟩
  | L :: l, h, n, hn => by
    rw [sizeN_cons] at hn
    unfold wholeN
    have hL := h L (by simp)
    have hf := frameL_len L
    by_cases hw : 6 + L.length ≤ n
    · rw [if_pos hw]
      obtain ⟨rest, hr⟩ := scans_cut l (fun M hM => h M (List.mem_cons_of_mem _ hM)) (n - (6 + L.length)) (by omega)
      refine ⟨rest, ?_⟩
      have := hr.cons hL
      rw [List.map_cons, List.flatten_cons, List.take_append, hf, List.take_of_length_le (by omega), List.take_succ_cons]
      exact this
    · rw [if_neg hw]
      refine ⟨(frameL L).take n, ?_, by simp, ?_⟩
      · rw [List.map_cons, List.flatten_cons, List.take_append_of_le_length (by omega)]
        simp
      · by_cases h0 : n = 0
        · exact .inl (by rw [h0]; rfl)
        · exact .inr (cut_why hL (by omega) (by omega))
theorem wholeN_le : ∀ (l : List (List Int)) (n : Nat), wholeN l n ≤ l.length
  | [], _ => Nat.le_refl _
  | L :: l, n => by
    unfold wholeN
    split
    · have := wholeN_le l (n - (6 + L.length)); simp; omega
    · omega
end Go.Proofs.Ytpcbolmidnoaiaa
