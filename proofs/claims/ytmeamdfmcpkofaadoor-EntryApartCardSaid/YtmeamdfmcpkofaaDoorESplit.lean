/- The line of an entry tells it. -/
import Derived.Test.YtmeamdfmcpkofaaDoorEAlive
import Derived.Lib.Join
import Derived.Lib.ItoaMem
set_option linter.unusedVariables false
set_option linter.unusedSimpArgs false
namespace Go.Proofs.YtmeamdfmcpkofaaDoor
open Go.Lib
/-- The pieces of a text between its blanks. -/
def pieces : List UInt8 → List (List UInt8)
  | [] => [[]]
  | c :: r => if c = 32 then [] :: pieces r else match pieces r with
    | p :: ps => (c :: p) :: ps
    | [] => [[c]]
theorem pieces_ne : ∀ l, pieces l ≠ []
  | [] => by simp [pieces]
  | c :: r => by
    unfold pieces
    split
    · simp
    · split <;> simp
theorem pieces_one : ∀ {l : List UInt8}, (32 : UInt8) ∉ l → pieces l = [l]
  | [], _ => rfl
  | c :: r, h => by
    simp only [List.mem_cons, not_or] at h
    unfold pieces
    rw [if_neg (fun e => h.1 e.symm), pieces_one h.2]
theorem pieces_app : ∀ {a b : List UInt8}, (32 : UInt8) ∉ a → pieces (a ++ 32 :: b) = a :: pieces b
  | [], b, _ => by simp [pieces]
  | c :: r, b, h => by
    simp only [List.mem_cons, not_or] at h
    rw [List.cons_append, pieces, if_neg (fun e => h.1 e.symm), pieces_app h.2]
theorem join_two (x : List UInt8) (y : List UInt8) (r : List (List UInt8)) : join (x :: y :: r) [32] = x ++ 32 :: join (y :: r) [32] := by
  rw [join_cons, join_cons]
  simp [joinTail]
theorem pieces_join : ∀ {xs : List (List UInt8)}, xs ≠ [] → (∀ x ∈ xs, (32 : UInt8) ∉ x) → pieces (join xs [32]) = xs
  | [], h, _ => absurd rfl h
  | [x], _, h => by rw [join_one]; exact pieces_one (h x (by simp))
  | x :: y :: r, _, h => by
    rw [join_two, pieces_app (h x (by simp)), pieces_join (by simp) (fun z hz => h z (List.mem_cons_of_mem _ hz))]
theorem dig_nat (k : Nat) (h : k < 10) : (UInt8.ofNat (48 + k)).toNat = 48 + k := by
  rw [UInt8.toNat_ofNat']; omega
def IsDig (c : UInt8) : Prop := 48 ≤ c.toNat ∧ c.toNat ≤ 57
theorem dec_digs : ∀ (n u : Nat), u ≤ n → decDigits u ≠ [] ∧ ∀ c ∈ decDigits u, IsDig c := by
  intro n
  induction n with
  | zero =>
    intro u hu
    have : u = 0 := by omega
    subst this
    rw [decDigits, dif_pos (by omega)]
    exact ⟨by simp, fun c hc => by simp at hc; subst hc; exact ⟨by decide, by decide⟩⟩
  | succ n ih =>
    intro u hu
    by_cases h : u < 10
    · rw [decDigits, dif_pos h]
      refine ⟨by simp, fun c hc => ?_⟩
      rw [List.mem_singleton.1 hc]
      unfold IsDig
      rw [dig_nat u h]; omega
    · rw [decDigits, dif_neg h]
      refine ⟨by simp, fun c hc => ?_⟩
      rcases List.mem_append.1 hc with hc | hc
      · exact (ih (u / 10) (by omega)).2 c hc
      · rw [List.mem_singleton.1 hc]
        unfold IsDig
        rw [dig_nat (u % 10) (by omega)]; omega
theorem itoa_bytes (m : Int) : itoa m ≠ [] ∧ ∀ c ∈ itoa m, c.toNat = 45 ∨ IsDig c := by
  unfold itoa
  split
  · exact ⟨by simp, fun c hc => by
      rcases List.mem_cons.1 hc with rfl | hc
      · exact .inl rfl
      · exact .inr ((dec_digs _ _ (Nat.le_refl _)).2 c hc)⟩
  · exact ⟨(dec_digs _ _ (Nat.le_refl _)).1, fun c hc => .inr ((dec_digs _ _ (Nat.le_refl _)).2 c hc)⟩
def valD (l : List UInt8) : Nat := l.foldl (fun n c => n * 10 + (c.toNat - 48)) 0
theorem val_dec : ∀ (n u : Nat), u ≤ n → valD (decDigits u) = u := by
  intro n
  induction n with
  | zero =>
    intro u hu
    have : u = 0 := by omega
    subst this
    rw [decDigits, dif_pos (by omega)]
    rfl
  | succ n ih =>
    intro u hu
    by_cases h : u < 10
    · rw [decDigits, dif_pos h]
      simp only [valD, List.foldl_cons, List.foldl_nil, dig_nat u h]
      omega
    · rw [decDigits, dif_neg h]
      have e := ih (u / 10) (by omega)
      unfold valD at e ⊢
      rw [List.foldl_append, e]
      simp only [List.foldl_cons, List.foldl_nil, dig_nat (u % 10) (by omega)]
      omega
theorem dec_inj {u v : Nat} (h : decDigits u = decDigits v) : u = v := by rw [← val_dec u u (Nat.le_refl _), h, val_dec v v (Nat.le_refl _)]
theorem dec_no45 (u : Nat) (r : List UInt8) : decDigits u ≠ 45 :: r := fun e => by
  have := (dec_digs u u (Nat.le_refl _)).2 45 (by rw [e]; simp)
  exact absurd this.1 (by decide)
theorem itoa_inj {m n : Int} (h : itoa m = itoa n) : m = n := by
  unfold itoa at h
  split at h <;> split at h
  · simp only [List.cons.injEq, true_and] at h
    have := dec_inj h; omega
  · exact absurd h.symm (dec_no45 _ _)
  · exact absurd h (dec_no45 _ _)
  · have := dec_inj h; omega
theorem textF_inj {k f : Nat} {m n : Int} (hm : 0 ≤ m ∧ m < 18446744073709551616) (hn : 0 ≤ n ∧ n < 18446744073709551616) (h : textF k f m = textF k f n) : m = n := by
  unfold textF at h
  split at h
  · have := itoa_inj h
    rw [← u64_s64 hm, this, u64_s64 hn]
  · have := dec_inj h; omega
theorem textF_blank (k f : Nat) (n : Int) : (32 : UInt8) ∉ textF k f n := fun h => by
  unfold textF at h
  split at h
  · rcases (itoa_bytes _).2 _ h with h | h
    · exact absurd h (by decide)
    · exact absurd h.1 (by decide)
  · exact absurd ((dec_digs _ _ (Nat.le_refl _)).2 _ h).1 (by decide)
theorem digit_inj {a b : Nat} (ha : a < 16) (hb : b < 16) (h : digit a = digit b) : a = b := by unfold digit at h; split at h <;> split at h <;> omega
theorem digit_bd {a : Nat} (ha : a < 16) : 48 ≤ digit a ∧ digit a < 256 := by unfold digit; split <;> omega
theorem texted_at (h : List Int) (i : Nat) (hi : i < 64) : (texted h)[i]? = some ((digit (if i % 2 = 0 then (h.getD (i / 2) 0).toNat / 16 else (h.getD (i / 2) 0).toNat % 16) : Int)) := by simp [texted, hi]
theorem half_lt {h : List Int} (hb : Oct h) (i : Nat) : (if i % 2 = 0 then (h.getD (i / 2) 0).toNat / 16 else (h.getD (i / 2) 0).toNat % 16) < 16 := by
  have h1 : 0 ≤ h.getD (i / 2) 0 ∧ h.getD (i / 2) 0 < 256 := by
    rw [List.getD]
    cases e : h[i / 2]? with
    | none => simp
    | some x => exact hb x (List.mem_of_getElem? e)
  split <;> omega
theorem texted_bd {h : List Int} (hb : Oct h) : ∀ x ∈ texted h, 48 ≤ x ∧ x < 256 := fun x hx => by
  simp only [texted, List.mem_map, List.mem_range] at hx
  obtain ⟨i, _, rfl⟩ := hx
  have := digit_bd (half_lt hb i)
  omega
theorem texted_inj {g h : List Int} (hg : Oct g) (hh : Oct h) (lg : g.length = 32) (lh : h.length = 32) (e : texted g = texted h) : g = h := by
  apply List.ext_getElem?
  intro j
  by_cases hj : j < 32
  · have e0 := congrArg (·[2 * j]?) e
    have e1 := congrArg (·[2 * j + 1]?) e
    simp only [texted_at g _ (show 2 * j < 64 by omega), texted_at h _ (show 2 * j < 64 by omega), texted_at g _ (show 2 * j + 1 < 64 by omega), texted_at h _ (show 2 * j + 1 < 64 by omega), Option.some.injEq] at e0 e1
    have d0 := digit_inj (half_lt hg (2 * j)) (half_lt hh (2 * j)) (by exact_mod_cast e0)
    have d1 := digit_inj (half_lt hg (2 * j + 1)) (half_lt hh (2 * j + 1)) (by exact_mod_cast e1)
    rw [if_pos (by omega), if_pos (by omega), show 2 * j / 2 = j by omega] at d0
    rw [if_neg (by omega), if_neg (by omega), show (2 * j + 1) / 2 = j by omega] at d1
    have a1 : g[j]? = some (g.getD j 0) := by rw [List.getD, List.getElem?_eq_getElem (by omega)]; rfl
    have a2 : h[j]? = some (h.getD j 0) := by rw [List.getD, List.getElem?_eq_getElem (by omega)]; rfl
    have b1 := hg _ (List.mem_of_getElem? a1)
    have b2 := hh _ (List.mem_of_getElem? a2)
    rw [a1, a2]
    congr 1
    omega
  · rw [List.getElem?_eq_none (by omega), List.getElem?_eq_none (by omega)]
theorem hexL_inj {g h : List Int} (hg : Oct g) (hh : Oct h) (lg : g.length = 32) (lh : h.length = 32) (e : hexL g = hexL h) : g = h := by
  refine texted_inj hg hh lg lh (strN_inj (fun x hx => ?_) (fun x hx => ?_) ?_)
  · have := texted_bd hg x hx; omega
  · have := texted_bd hh x hx; omega
  · unfold hexL at e
    rw [strOfNums_data, strOfNums_data] at e
    exact e
theorem hexL_blank {h : List Int} (hb : Oct h) : (32 : UInt8) ∉ hexL h := fun q => by
  unfold hexL at q
  rw [strOfNums_data, List.mem_map] at q
  obtain ⟨x, hx, e⟩ := q
  have := texted_bd hb x hx
  have e2 := congrArg UInt8.toNat e
  rw [UInt8.toNat_ofNat'] at e2
  have e3 : x.toNat % 256 = 32 := e2
  omega
theorem wordL_blank : ∀ k, k < 6 → (32 : UInt8) ∉ wordL k := by decide
theorem wordL_inj : ∀ j, j < 6 → ∀ k, k < 6 → wordL j = wordL k → j = k := by decide
theorem pieces_ok {k : Nat} {x : En} (hx : x.ok) (hk : k < 6) : ∀ p ∈ piecesL k x, (32 : UInt8) ∉ p := fun p hp => by
  unfold piecesL at hp
  rcases List.mem_cons.1 hp with rfl | hp
  · exact wordL_blank k hk
  · obtain ⟨f, _, rfl⟩ := List.mem_map.1 hp
    unfold pieceF
    split
    · exact hexL_blank hx.bytes
    · exact textF_blank _ _ _
theorem lineL_inj {j k : Nat} {x y : En} (hx : x.ok) (hy : y.ok) (mx : May j x) (my : May k y) (h : lineL j x = lineL k y) : x = y := by
  have hj := mx.is
  have hk := my.is
  have e : piecesL j x = piecesL k y := by
    rw [← pieces_join (xs := piecesL j x) (by simp [piecesL]) (pieces_ok hx (by omega)), ← pieces_join (xs := piecesL k y) (by simp [piecesL]) (pieces_ok hy (by omega))]
    exact congrArg pieces h
  unfold piecesL at e
  injection e with e1 e2
  obtain rfl := wordL_inj j (by omega) k (by omega) e1
  have e3 := List.map_inj_left.1 e2
  rw [lay_nums j hj] at e3
  refine May.eq hx hy mx my (fun f hf => ?_) ?_
  · have := e3 f (List.mem_append_left _ hf)
    have hf9 := nums_lt hf
    unfold pieceF at this
    rw [if_neg (by omega), if_neg (by omega)] at this
    exact textF_inj (num_bd hx f) (num_bd hy f) this
  · by_cases h3 : 3 ≤ j
    · have := e3 9 (by rw [if_pos h3]; simp)
      unfold pieceF at this
      rw [if_pos rfl, if_pos rfl] at this
      exact hexL_inj hx.bytes hy.bytes hx.len hy.len this
    · rw [mx.hash (by omega), my.hash (by omega)]
end Go.Proofs.YtmeamdfmcpkofaaDoor
