/- Texts of plans: pieces between blanks, a colon in each. -/
import Derived.Test.YtmbimnphdhmapaaDoorDNum
import Derived.Test.YtmbimnphdhmapaaDoorBMath
import Derived.Lib.IndexMore
import Derived.Lib.Join
set_option linter.unusedVariables false
set_option linter.unusedSimpArgs false
namespace Go.Proofs.YtmbimnphdhmapaaDoor
open Go.Lib
/-- The first place of a byte. -/
theorem byte_split (c : UInt8) : ∀ l : List UInt8, (indexByte l c = -1 ∧ c ∉ l) ∨ ∃ a b, l = a ++ c :: b ∧ c ∉ a ∧ indexByte l c = a.length
  | [] => .inl ⟨rfl, by simp⟩
  | x :: r => by
    by_cases hx : x = c
    · subst hx
      exact .inr ⟨[], r, rfl, by simp, by simp [indexByte]⟩
    · have hb : (x == c) = false := by simp [hx]
      rcases byte_split c r with ⟨h1, h2⟩ | ⟨a, b, rfl, h2, h3⟩
      · refine .inl ⟨by simp [indexByte, hb, h1], ?_⟩
        simp only [List.mem_cons, not_or]
        exact ⟨fun e => hx e.symm, h2⟩
      · refine .inr ⟨x :: a, b, rfl, ?_, ?_⟩
        · simp only [List.mem_cons, not_or]
          exact ⟨fun e => hx e.symm, h2⟩
        · have : ((a.length : Int) == -1) = false := by rw [beq_eq_false_iff_ne]; omega
          simp only [List.cons_append, indexByte, hb, h3, this]
          simp
theorem cut_split (c : UInt8) (l : List UInt8) : (cut l [c] = (l, [], false) ∧ c ∉ l) ∨ ∃ a b, l = a ++ c :: b ∧ c ∉ a ∧ cut l [c] = (a, b, true) := by
  unfold cut
  rw [index_one]
  rcases byte_split c l with ⟨h1, h2⟩ | ⟨a, b, rfl, h2, h3⟩
  · exact .inl ⟨by rw [h1]; rfl, h2⟩
  · refine .inr ⟨a, b, rfl, h2, ?_⟩
    rw [h3, if_pos (by omega)]
    simp
theorem split_unique {c : UInt8} {a b a' b' : List UInt8} (h : c ∉ a) (h' : c ∉ a') (e : a ++ c :: b = a' ++ c :: b') : a = a' ∧ b = b' := by
  induction a generalizing a' with
  | nil =>
    cases a' with
    | nil => simp at e; exact ⟨rfl, e⟩
    | cons x r => simp at e; exact absurd (List.mem_cons.2 (.inl e.1)) h'
  | cons y r ih =>
    cases a' with
    | nil => simp at e; exact absurd (List.mem_cons.2 (.inl e.1.symm)) h
    | cons x r' =>
      simp only [List.cons_append, List.cons.injEq] at e
      obtain ⟨rfl, e⟩ := e
      obtain ⟨rfl, rfl⟩ := ih (fun q => h (List.mem_cons_of_mem _ q)) (fun q => h' (List.mem_cons_of_mem _ q)) e
      exact ⟨rfl, rfl⟩
/-- The pieces of a text between its blanks. -/
def pieces : List UInt8 → List (List UInt8)
  | [] => [[]]
  | c :: r => if c = 32 then [] :: pieces r else match pieces r with
    | p :: ps => (c :: p) :: ps
    | [] => [[c]]
theorem pieces_ne : ∀ l, pieces l ≠ []
  | [] => by simp [pieces]
  | c :: r => by
    unfold pieces
    split
    · simp
    · split <;> simp
theorem pieces_one : ∀ {l : List UInt8}, (32 : UInt8) ∉ l → pieces l = [l]
  | [], _ => rfl
  | c :: r, h => by
    simp only [List.mem_cons, not_or] at h
    unfold pieces
    rw [if_neg (fun e => h.1 e.symm), pieces_one h.2]
theorem pieces_app : ∀ {a b : List UInt8}, (32 : UInt8) ∉ a → pieces (a ++ 32 :: b) = a :: pieces b
  | [], b, _ => by simp [pieces]
  | c :: r, b, h => by
    simp only [List.mem_cons, not_or] at h
    rw [List.cons_append, pieces, if_neg (fun e => h.1 e.symm), pieces_app h.2]
theorem join_two (x : List UInt8) (y : List UInt8) (r : List (List UInt8)) : join (x :: y :: r) [32] = x ++ 32 :: join (y :: r) [32] := by
  rw [join_cons, join_cons]
  simp [joinTail]
theorem pieces_join : ∀ {xs : List (List UInt8)}, xs ≠ [] → (∀ x ∈ xs, (32 : UInt8) ∉ x) → pieces (join xs [32]) = xs
  | [], h, _ => absurd rfl h
  | [x], _, h => by rw [join_one]; exact pieces_one (h x (by simp))
  | x :: y :: r, _, h => by
    rw [join_two, pieces_app (h x (by simp)), pieces_join (by simp) (fun z hz => h z (List.mem_cons_of_mem _ hz))]
theorem join_pieces_n : ∀ (n : Nat) (l : List UInt8), l.length ≤ n → join (pieces l) [32] = l := by
  intro n
  induction n with
  | zero => intro l hl; cases l with
    | nil => rfl
    | cons c r => simp at hl
  | succ n ih =>
    intro l hl
    rcases byte_split 32 l with ⟨_, h⟩ | ⟨a, b, rfl, h, _⟩
    · rw [pieces_one h, join_one]
    · rw [pieces_app h]
      have hb := ih b (by simp at hl; omega)
      cases hp : pieces b with
      | nil => exact absurd hp (pieces_ne b)
      | cons p ps => rw [join_two, ← hp, hb]
theorem join_pieces (l : List UInt8) : join (pieces l) [32] = l := join_pieces_n l.length l (Nat.le_refl _)
/-- A switch's text, and a plan's. -/
def swL (x : Sw) : List UInt8 := itoa x.m ++ 58 :: itoa x.b
def textL (xs : List Sw) : List UInt8 := join (xs.map swL) [32]
theorem itoa_no {m : Int} {c : UInt8} (h : c.toNat = 32 ∨ c.toNat = 58) : c ∉ itoa m := fun q => by
  rcases (itoa_bytes m).2 c q with e | ⟨e, e'⟩ <;> omega
theorem swL_blank (x : Sw) : (32 : UInt8) ∉ swL x := by
  unfold swL
  simp only [List.mem_append, List.mem_cons, not_or]
  exact ⟨itoa_no (.inl rfl), by decide, itoa_no (.inl rfl)⟩
/-- The numbers of a switch are ints. -/
def Sw64 (x : Sw) : Prop := I64 x.m ∧ I64 x.b
theorem swL_inj {x y : Sw} (hx : Sw64 x) (hy : Sw64 y) (h : swL x = swL y) : x = y := by
  obtain ⟨h1, h2⟩ := split_unique (itoa_no (.inr rfl)) (itoa_no (.inr rfl)) h
  cases x; cases y
  have e1 := itoa_inj hx.1 hy.1 h1
  have e2 := itoa_inj hx.2 hy.2 h2
  simp only at e1 e2
  rw [e1, e2]
theorem pieces_text {xs : List Sw} (h : xs ≠ []) : pieces (textL xs) = xs.map swL :=
  pieces_join (by simpa using h) (fun x hx => by obtain ⟨y, _, rfl⟩ := List.mem_map.1 hx; exact swL_blank y)
theorem map_swL_inj : ∀ {xs ys : List Sw}, (∀ x ∈ xs, Sw64 x) → (∀ y ∈ ys, Sw64 y) → xs.map swL = ys.map swL → xs = ys
  | [], [], _, _, _ => rfl
  | [], y :: ys, _, _, h => by cases h
  | x :: xs, [], _, _, h => by cases h
  | x :: xs, y :: ys, hx, hy, h => by
    simp only [List.map_cons, List.cons.injEq] at h
    rw [swL_inj (hx x (by simp)) (hy y (by simp)) h.1, map_swL_inj (fun z hz => hx z (List.mem_cons_of_mem _ hz)) (fun z hz => hy z (List.mem_cons_of_mem _ hz)) h.2]
/-- The switch whose text is l, and whether there is one. -/
def SwIs (l : List UInt8) (x : Sw) (ok : Bool) : Prop := (ok = true → Sw64 x ∧ l = swL x) ∧ (ok = false → ∀ y, Sw64 y → l ≠ swL y)
theorem swL_len (x : Sw) : 1 ≤ (swL x).length := by unfold swL; simp; omega
end Go.Proofs.YtmbimnphdhmapaaDoor
