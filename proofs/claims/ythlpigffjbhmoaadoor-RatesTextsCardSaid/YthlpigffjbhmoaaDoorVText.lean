/- Texts of tables, as lists of bytes. -/
import Derived.Test.YthlpigffjbhmoaaDoorDNum
import Derived.Test.YthlpigffjbhmoaaDoorVMath
import Derived.Lib.IndexMore
import Derived.Lib.Join
set_option linter.unusedVariables false
set_option linter.unusedSimpArgs false
namespace Go.Proofs.YthlpigffjbhmoaaDoor
open Go.Lib
/-- The first place of a byte. -/
theorem byte_split (c : UInt8) : ∀ l : List UInt8, (indexByte l c = -1 ∧ c ∉ l) ∨ ∃ a b, l = a ++ c :: b ∧ c ∉ a ∧ indexByte l c = a.length
  | [] => .inl ⟨rfl, by simp⟩
  | x :: r => by
    by_cases hx : x = c
    · subst hx
      exact .inr ⟨[], r, rfl, by simp, by simp [indexByte]⟩
    · have hb : (x == c) = false := by simp [hx]
      rcases byte_split c r with ⟨h1, h2⟩ | ⟨a, b, rfl, h2, h3⟩
      · refine .inl ⟨by simp [indexByte, hb, h1], ?_⟩
        simp only [List.mem_cons, not_or]
        exact ⟨fun e => hx e.symm, h2⟩
      · refine .inr ⟨x :: a, b, rfl, ?_, ?_⟩
        · simp only [List.mem_cons, not_or]
          exact ⟨fun e => hx e.symm, h2⟩
        · have : ((a.length : Int) == -1) = false := by rw [beq_eq_false_iff_ne]; omega
          simp only [List.cons_append, indexByte, hb, h3, this]
          simp
theorem cut_split (c : UInt8) (l : List UInt8) : (cut l [c] = (l, [], false) ∧ c ∉ l) ∨ ∃ a b, l = a ++ c :: b ∧ c ∉ a ∧ cut l [c] = (a, b, true) := by
  unfold cut
  rw [index_one]
  rcases byte_split c l with ⟨h1, h2⟩ | ⟨a, b, rfl, h2, h3⟩
  · exact .inl ⟨by rw [h1]; rfl, h2⟩
  · refine .inr ⟨a, b, rfl, h2, ?_⟩
    rw [h3, if_pos (by omega)]
    simp
theorem split_unique {c : UInt8} {a b a' b' : List UInt8} (h : c ∉ a) (h' : c ∉ a') (e : a ++ c :: b = a' ++ c :: b') : a = a' ∧ b = b' := by
  induction a generalizing a' with
  | nil =>
    cases a' with
    | nil => simp at e; exact ⟨rfl, e⟩
    | cons x r => simp at e; exact absurd (List.mem_cons.2 (.inl e.1)) h'
  | cons y r ih =>
    cases a' with
    | nil => simp at e; exact absurd (List.mem_cons.2 (.inl e.1.symm)) h
    | cons x r' =>
      simp only [List.cons_append, List.cons.injEq] at e
      obtain ⟨rfl, e⟩ := e
      obtain ⟨rfl, rfl⟩ := ih (fun q => h (List.mem_cons_of_mem _ q)) (fun q => h' (List.mem_cons_of_mem _ q)) e
      exact ⟨rfl, rfl⟩
/-- The pieces of a text between its blanks. -/
def pieces : List UInt8 → List (List UInt8)
  | [] => [[]]
  | c :: r => if c = 32 then [] :: pieces r else match pieces r with
    | p :: ps => (c :: p) :: ps
    | [] => [[c]]
theorem pieces_ne : ∀ l, pieces l ≠ []
  | [] => by simp [pieces]
  | c :: r => by
    unfold pieces
    split
    · simp
    · split <;> simp
theorem pieces_one : ∀ {l : List UInt8}, (32 : UInt8) ∉ l → pieces l = [l]
  | [], _ => rfl
  | c :: r, h => by
    simp only [List.mem_cons, not_or] at h
    unfold pieces
    rw [if_neg (fun e => h.1 e.symm), pieces_one h.2]
theorem pieces_app : ∀ {a b : List UInt8}, (32 : UInt8) ∉ a → pieces (a ++ 32 :: b) = a :: pieces b
  | [], b, _ => by simp [pieces]
  | c :: r, b, h => by
    simp only [List.mem_cons, not_or] at h
    rw [List.cons_append, pieces, if_neg (fun e => h.1 e.symm), pieces_app h.2]
theorem join_two (x : List UInt8) (y : List UInt8) (r : List (List UInt8)) : join (x :: y :: r) [32] = x ++ 32 :: join (y :: r) [32] := by
  rw [join_cons, join_cons]
  simp [joinTail]
theorem pieces_join : ∀ {xs : List (List UInt8)}, xs ≠ [] → (∀ x ∈ xs, (32 : UInt8) ∉ x) → pieces (join xs [32]) = xs
  | [], h, _ => absurd rfl h
  | [x], _, h => by rw [join_one]; exact pieces_one (h x (by simp))
  | x :: y :: r, _, h => by
    rw [join_two, pieces_app (h x (by simp)), pieces_join (by simp) (fun z hz => h z (List.mem_cons_of_mem _ hz))]
theorem join_pieces_n : ∀ (n : Nat) (l : List UInt8), l.length ≤ n → join (pieces l) [32] = l := by
  intro n
  induction n with
  | zero => intro l hl; cases l with
    | nil => rfl
    | cons c r => simp at hl
  | succ n ih =>
    intro l hl
    rcases byte_split 32 l with ⟨_, h⟩ | ⟨a, b, rfl, h, _⟩
    · rw [pieces_one h, join_one]
    · rw [pieces_app h]
      have hb := ih b (by simp at hl; omega)
      cases hp : pieces b with
      | nil => exact absurd hp (pieces_ne b)
      | cons p ps => rw [join_two, ← hp, hb]
theorem join_pieces (l : List UInt8) : join (pieces l) [32] = l := join_pieces_n l.length l (Nat.le_refl _)
theorem pieces_len : ∀ (l : List UInt8), ∀ p ∈ pieces l, p.length ≤ l.length
  | [], p, hp => by simp [pieces] at hp; simp [hp]
  | c :: r, p, hp => by
    unfold pieces at hp
    split at hp
    · rcases List.mem_cons.1 hp with rfl | hp
      · simp
      · have := pieces_len r p hp
        simp; omega
    · split at hp
      · rename_i q qs he
        rcases List.mem_cons.1 hp with rfl | hp
        · have := pieces_len r q (by rw [he]; simp)
          simp; omega
        · have := pieces_len r p (by rw [he]; exact List.mem_cons_of_mem _ hp)
          simp; omega
      · rename_i he
        exact absurd he (pieces_ne r)
/-- The text of a version's prices, of a version, of a table. -/
def pricesL (ps : List Int) : List UInt8 := ps.flatMap fun p => 32 :: itoa p
def bodyL (v : Ve) : List UInt8 := itoa v.f ++ pricesL v.ps
def lineL (v : Ve) : List UInt8 := bodyL v ++ [10]
def textL (l : List Ve) : List UInt8 := l.flatMap lineL
theorem textL_app (l r : List Ve) : textL (l ++ r) = textL l ++ textL r := by simp [textL]
theorem textL_one (v : Ve) : textL [v] = lineL v := by simp [textL]
theorem itoa_no {m : Int} {c : UInt8} (h : c.toNat = 32 ∨ c.toNat = 10) : c ∉ itoa m := fun q => by
  rcases (itoa_bytes m).2 c q with e | ⟨e, e'⟩ <;> omega
/-- The numbers of a version are int64s. -/
def Ver64 (v : Ve) : Prop := I64 v.f ∧ ∀ p ∈ v.ps, I64 p
theorem ver_64 {v : Ve} (h : VerMay v) : Ver64 v := by
  obtain ⟨h1, _, h2⟩ := h
  refine ⟨by unfold I64; omega, fun p hp => ?_⟩
  have := h2 p hp
  unfold PrMay at this
  unfold I64; omega
theorem body_join (f : Int) : ∀ ps : List Int, itoa f ++ pricesL ps = join ((f :: ps).map itoa) [32]
  | [] => by show itoa f ++ [] = join [itoa f] [32]; rw [join_one, List.append_nil]
  | p :: ps => by
    show itoa f ++ (32 :: itoa p ++ pricesL ps) = join (itoa f :: itoa p :: ps.map itoa) [32]
    rw [join_two, List.cons_append, body_join p ps]
    rfl
theorem pieces_body (v : Ve) : pieces (bodyL v) = itoa v.f :: v.ps.map itoa := by
  unfold bodyL
  rw [body_join, pieces_join (by simp) (fun x hx => by obtain ⟨y, _, rfl⟩ := List.mem_map.1 hx; exact itoa_no (.inl rfl))]
  rfl
theorem map_itoa_inj : ∀ {xs ys : List Int}, (∀ x ∈ xs, I64 x) → (∀ y ∈ ys, I64 y) → xs.map itoa = ys.map itoa → xs = ys
  | [], [], _, _, _ => rfl
  | [], y :: ys, _, _, h => by cases h
  | x :: xs, [], _, _, h => by cases h
  | x :: xs, y :: ys, hx, hy, h => by
    simp only [List.map_cons, List.cons.injEq] at h
    rw [itoa_inj (hx x (by simp)) (hy y (by simp)) h.1, map_itoa_inj (fun z hz => hx z (List.mem_cons_of_mem _ hz)) (fun z hz => hy z (List.mem_cons_of_mem _ hz)) h.2]
theorem body_inj {u v : Ve} (hu : Ver64 u) (hv : Ver64 v) (h : bodyL u = bodyL v) : u = v := by
  have h1 := pieces_body u
  rw [h, pieces_body] at h1
  injection h1 with h1 h2
  cases u; cases v
  have e1 := itoa_inj hv.1 hu.1 h1
  have e2 := map_itoa_inj hv.2 hu.2 h2
  simp only at e1 e2
  rw [e1, e2]
theorem body_no (v : Ve) : (10 : UInt8) ∉ bodyL v := by
  unfold bodyL pricesL
  simp only [List.mem_append, List.mem_flatMap, List.mem_cons, not_or, not_exists, not_and]
  exact ⟨itoa_no (.inr rfl), fun p _ => ⟨by decide, itoa_no (.inr rfl)⟩⟩
theorem line_ne (v : Ve) : lineL v ≠ [] := by unfold lineL; simp
/-- What begins with a version's line. -/
theorem line_split {u v : Ve} (hu : Ver64 u) (hv : Ver64 v) {a b : List UInt8} (h : lineL u ++ a = lineL v ++ b) : u = v ∧ a = b := by
  unfold lineL at h
  rw [List.append_assoc, List.append_assoc] at h
  obtain ⟨h1, h2⟩ := split_unique (body_no u) (body_no v) (show bodyL u ++ 10 :: a = bodyL v ++ 10 :: b from h)
  exact ⟨body_inj hu hv h1, h2⟩
theorem text_split : ∀ {l r : List Ve} {a b : List UInt8}, (∀ v ∈ l, Ver64 v) → (∀ v ∈ r, Ver64 v) → textL l ++ a = textL r ++ b → (∃ t, r = l ++ t ∧ a = textL t ++ b) ∨ ∃ t, l = r ++ t ∧ b = textL t ++ a
  | [], r, a, b, _, _, h => .inl ⟨r, rfl, h⟩
  | u :: l, [], a, b, _, _, h => .inr ⟨u :: l, rfl, h.symm⟩
  | u :: l, v :: r, a, b, hl, hr, h => by
    rw [show textL (u :: l) = lineL u ++ textL l by simp [textL], show textL (v :: r) = lineL v ++ textL r by simp [textL], List.append_assoc, List.append_assoc] at h
    obtain ⟨rfl, h2⟩ := line_split (hl u (by simp)) (hr v (by simp)) h
    rcases text_split (fun x hx => hl x (List.mem_cons_of_mem _ hx)) (fun x hx => hr x (List.mem_cons_of_mem _ hx)) h2 with ⟨t, e1, e2⟩ | ⟨t, e1, e2⟩
    · exact .inl ⟨t, by rw [e1]; rfl, e2⟩
    · exact .inr ⟨t, by rw [e1]; rfl, e2⟩
theorem tab_64 {l : List Ve} (h : TabMay l) : ∀ v ∈ l, Ver64 v := fun v hv => ver_64 (tab_ver h hv)
/-- What Parse answers of s: its table; or the number of the first line that cannot be one. -/
def ParseIs (s : List UInt8) (l : List Ve) (n e : Int) : Prop :=
  (TabMay l ∧ s = textL l ∧ n = 0 ∧ e = 0) ∨
  (l = [] ∧ e = 100 ∧ ∃ r rest, TabMay r ∧ s = textL r ++ rest ∧ rest ≠ [] ∧ n = (r.length : Int) + 1 ∧ ∀ v, Follows r v → ¬ lineL v <+: rest)
theorem text_nil {t : List Ve} (h : textL t = []) : t = [] := by
  cases t with
  | nil => rfl
  | cons u t =>
    rw [show textL (u :: t) = lineL u ++ textL t by simp [textL]] at h
    exact absurd (List.append_eq_nil_iff.1 h).1 (line_ne u)
/-- A table that goes on behind another one. -/
theorem tab_more {r : List Ve} {u : Ve} {t : List Ve} (h : TabMay (r ++ u :: t)) : Follows r u := by
  have := tab_take h (r.length + 1)
  rw [show (r ++ u :: t).take (r.length + 1) = r ++ [u] by
    rw [show r ++ u :: t = (r ++ [u]) ++ t by simp]
    exact List.take_left' (by simp)] at this
  exact ((tab_snoc r u).1 this).2
theorem parse_mix {s : List UInt8} {l : List Ve} (h : TabMay l) (e : s = textL l) {r : List Ve} {rest : List UInt8} (hr : TabMay r) (e' : s = textL r ++ rest) (hn : rest ≠ []) (hno : ∀ v, Follows r v → ¬ lineL v <+: rest) : False := by
  rcases text_split (a := []) (tab_64 h) (tab_64 hr) (by rw [List.append_nil, ← e, e']) with ⟨t, e1, e2⟩ | ⟨t, e1, e2⟩
  · exact hn (List.append_eq_nil_iff.1 e2.symm).2
  · rw [List.append_nil] at e2
    cases t with
    | nil => exact hn (e2.trans rfl)
    | cons u t =>
      subst e1
      refine hno u (tab_more h) ?_
      rw [e2, show textL (u :: t) = lineL u ++ textL t by simp [textL]]
      exact List.prefix_append _ _
theorem parse_bad {s : List UInt8} {r r' : List Ve} {rest rest' : List UInt8} (hr : TabMay r) (e : s = textL r ++ rest) (hno : ∀ v, Follows r v → ¬ lineL v <+: rest) (hr' : TabMay r') (e' : s = textL r' ++ rest') (t : List Ve) (e1 : r' = r ++ t) (e2 : rest = textL t ++ rest') : t = [] := by
  cases t with
  | nil => rfl
  | cons u t =>
    subst e1
    refine absurd ?_ (hno u (tab_more hr'))
    rw [e2, show textL (u :: t) = lineL u ++ textL t by simp [textL], List.append_assoc]
    exact List.prefix_append _ _
theorem ParseIs.unique {s : List UInt8} {l l' : List Ve} {n n' e e' : Int} (h : ParseIs s l n e) (h' : ParseIs s l' n' e') : l = l' ∧ n = n' ∧ e = e' := by
  rcases h with ⟨h1, h2, rfl, rfl⟩ | ⟨rfl, rfl, r, rest, hr, hs, hn, rfl, hno⟩ <;> rcases h' with ⟨k1, k2, rfl, rfl⟩ | ⟨rfl, rfl, r', rest', hr', hs', hn', rfl, hno'⟩
  · refine ⟨?_, rfl, rfl⟩
    rcases text_split (a := []) (b := []) (tab_64 h1) (tab_64 k1) (by rw [List.append_nil, List.append_nil, ← h2, ← k2]) with ⟨t, e1, e2⟩ | ⟨t, e1, e2⟩
    · rw [List.append_nil] at e2
      rw [e1, text_nil e2.symm, List.append_nil]
    · rw [List.append_nil] at e2
      rw [e1, text_nil e2.symm, List.append_nil]
  · exact (parse_mix h1 h2 hr' hs' hn' hno').elim
  · exact (parse_mix k1 k2 hr hs hn hno).elim
  · refine ⟨rfl, ?_, rfl⟩
    rcases text_split (tab_64 hr) (tab_64 hr') (hs.symm.trans hs') with ⟨t, e1, e2⟩ | ⟨t, e1, e2⟩
    · obtain rfl := parse_bad hr hs hno hr' hs' t e1 e2
      rw [e1, List.append_nil]
    · obtain rfl := parse_bad hr' hs' hno' hr hs t e1 e2
      rw [e1, List.append_nil]
theorem parse_text {l : List Ve} (h : TabMay l) : ParseIs (textL l) l 0 0 := .inl ⟨h, rfl, rfl, rfl⟩
/-- Where the rest of a text has no line that may follow. ln: its first line. -/
theorem no_line {r : List Ve} {ln rest : List UInt8} (hl : (∃ x, ln = x ++ [10] ∧ (10 : UInt8) ∉ x) ∨ ((10 : UInt8) ∉ ln ∧ rest = [])) (hno : ∀ v, Follows r v → ln ≠ lineL v) : ∀ v, Follows r v → ¬ lineL v <+: ln ++ rest := by
  rintro v hv ⟨t, ht⟩
  rcases hl with ⟨x, rfl, hx⟩ | ⟨h1, rfl⟩
  · unfold lineL at ht
    rw [List.append_assoc, List.append_assoc] at ht
    obtain ⟨e, _⟩ := split_unique (body_no v) hx (show bodyL v ++ 10 :: t = x ++ 10 :: rest from ht)
    exact hno v hv (by unfold lineL; rw [e])
  · rw [List.append_nil] at ht
    refine h1 ?_
    rw [← ht]
    unfold lineL
    simp
/-- Lengths. -/
theorem itoa_len12 {n : Int} (h : 0 ≤ n) (h' : n < 253402300800) : (itoa n).length ≤ 12 := by
  obtain ⟨u, rfl⟩ : ∃ u : Nat, n = (u : Int) := ⟨n.toNat, by omega⟩
  rw [itoa_nonneg]
  exact dec_len 11 u (by omega)
theorem prices_len : ∀ (ps : List Int), (∀ p ∈ ps, PrMay p) → (pricesL ps).length ≤ ps.length * 13
  | [], _ => by simp [pricesL]
  | p :: ps, h => by
    have h1 := h p (by simp)
    unfold PrMay at h1
    have h2 := itoa_len12 h1.1 (by omega)
    have h3 := prices_len ps (fun q hq => h q (List.mem_cons_of_mem _ hq))
    rw [show pricesL (p :: ps) = 32 :: itoa p ++ pricesL ps by simp [pricesL]]
    simp
    omega
theorem line_len {v : Ve} (h : VerMay v) : (lineL v).length ≤ 221 := by
  have h1 := itoa_len12 h.1.1 h.1.2
  have h2 := prices_len v.ps h.2.2
  have h3 := h.2.1.2
  unfold lineL bodyL
  simp
  omega
theorem text_len : ∀ (l : List Ve), (∀ v ∈ l, VerMay v) → (textL l).length ≤ l.length * 221
  | [], _ => by simp [textL]
  | v :: l, h => by
    have h1 := line_len (h v (by simp))
    have h2 := text_len l (fun q hq => h q (List.mem_cons_of_mem _ hq))
    rw [show textL (v :: l) = lineL v ++ textL l by simp [textL]]
    simp
    omega
end Go.Proofs.YthlpigffjbhmoaaDoor
