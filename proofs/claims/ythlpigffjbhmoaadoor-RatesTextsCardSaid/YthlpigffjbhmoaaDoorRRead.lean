/- The document's read. -/
import Derived.Test.YthlpigffjbhmoaaDoorRVal
import Derived.Test.YthlpigffjbhmoaaDoorVSli
import Derived.Test.YthlpigffjbhmoaaDoorEVerL
set_option linter.unusedVariables false
set_option linter.unusedSimpArgs false
namespace Go.Proofs.YthlpigffjbhmoaaDoor
open Go.RowKit Go.Shelf
theorem pieces_blank : ∀ a : List UInt8, pieces (a ++ [32]) = pieces a ++ [[]]
  | [] => by simp [pieces]
  | x :: r => by
    rw [List.cons_append, pieces, pieces, pieces_blank r]
    split
    · rfl
    · cases hp : pieces r with
      | nil => exact absurd hp (pieces_ne r)
      | cons p ps => rfl
theorem pieces_snoc : ∀ (a : List UInt8) (c : UInt8), c ≠ 32 → ∀ d cur, pieces a = d ++ [cur] → pieces (a ++ [c]) = d ++ [cur ++ [c]]
  | [], c, hc, d, cur, h => by
    cases d with
    | nil => simp [pieces] at h; subst h; simp [pieces, hc]
    | cons p d => simp [pieces] at h
  | x :: r, c, hc, d, cur, h => by
    rw [List.cons_append, pieces]
    rw [pieces] at h
    split at h
    · rename_i hx
      rw [if_pos hx]
      cases d with
      | nil => simp at h; exact absurd h.2 (pieces_ne r)
      | cons p d =>
        simp at h
        rw [pieces_snoc r c hc d cur h.2, ← h.1]
        rfl
    · rename_i hx
      rw [if_neg hx]
      cases hp : pieces r with
      | nil => exact absurd hp (pieces_ne r)
      | cons p ps =>
        rw [hp] at h
        cases d with
        | nil =>
          simp at h
          obtain ⟨rfl, rfl⟩ := h
          rw [pieces_snoc r c hc [] p (by rw [hp]; rfl)]
          rfl
        | cons q d =>
          simp at h
          obtain ⟨rfl, rfl⟩ := h
          rw [pieces_snoc r c hc (p :: d) cur (by rw [hp]; rfl)]
          rfl
def RDone (done : List (List UInt8)) (f : Int) (ps : List Int) : Prop := (done = [] ∧ f = -1 ∧ ps = []) ∨ ∃ p0 rest, done = p0 :: rest ∧ ValIs p0 f ∧ rest.length = ps.length ∧ ∀ (i : Nat) (p : List UInt8) (x : Int), rest[i]? = some p → ps[i]? = some x → ValIs p x
theorem rdone_first {f x : Int} {ps : List Int} {c : List UInt8} (h : RDone [] f ps) (hx : ValIs c x) : ps = [] ∧ RDone [c] x [] := by
  rcases h with ⟨_, _, h⟩ | ⟨p0, rest, h, _⟩
  · exact ⟨h, .inr ⟨c, [], rfl, hx, rfl, fun i p y h => by simp at h⟩⟩
  · cases h
theorem rdone_more {done : List (List UInt8)} {f x : Int} {ps : List Int} {c : List UInt8} (h : RDone done f ps) (hne : done ≠ []) (hx : ValIs c x) : RDone (done ++ [c]) f (ps ++ [x]) := by
  rcases h with ⟨e, _⟩ | ⟨p0, rest, rfl, h1, h2, h3⟩
  · exact absurd e hne
  · refine .inr ⟨p0, rest ++ [c], rfl, h1, by simp [h2], fun i p y hp hy => ?_⟩
    rcases Nat.lt_trichotomy i rest.length with q | q | q
    · rw [List.getElem?_append_left q] at hp
      rw [List.getElem?_append_left (by rw [← h2]; exact q)] at hy
      exact h3 i p y hp hy
    · subst q
      rw [List.getElem?_append_right (Nat.le_refl _), Nat.sub_self] at hp
      rw [h2, List.getElem?_append_right (Nat.le_refl _), Nat.sub_self] at hy
      simp at hp hy
      subst hp
      subst hy
      exact hx
    · rw [List.getElem?_eq_none (by simp; omega)] at hp
      cases hp
/-- What read makes of a version's line is the version. -/
theorem read_body {u : Ve} (hu : VerMay u) {f : Int} {ps : List Int} (h : RDone (pieces (bodyL u)) f ps) : (⟨f, ps⟩ : Ve) = u := by
  rw [pieces_body] at h
  rcases h with ⟨e, _⟩ | ⟨p0, rest, e, h1, h2, h3⟩
  · cases e
  · injection e with e1 e2
    subst e1
    subst e2
    have hf := val_itoa hu.1.1 hu.1.2 h1
    rw [List.length_map] at h2
    have hps : ps = u.ps := List.ext_getElem? (fun i => by
      by_cases hi : i < ps.length
      · obtain ⟨x, hx⟩ : ∃ x, ps[i]? = some x := ⟨_, List.getElem?_eq_getElem hi⟩
        obtain ⟨y, hy⟩ : ∃ y, u.ps[i]? = some y := ⟨_, List.getElem?_eq_getElem (by omega)⟩
        have hv := h3 i (Lib.itoa y) x (by rw [List.getElem?_map, hy]; rfl) hx
        have hm := hu.2.2 y (List.mem_of_getElem? hy)
        unfold PrMay at hm
        rw [hx, hy, val_itoa hm.1 (by omega) hv]
      · rw [List.getElem?_eq_none (by omega), List.getElem?_eq_none (by omega)])
    rw [hf, hps]
theorem cur_ext (s : ByteArray) (at' k : Nat) : (s.extract at' k).data.toList = (s.data.toList.take k).drop at' := by
  rw [ByteArray.data_extract, Array.toList_extract, List.extract_eq_take_drop, List.drop_take]
theorem results_r {f : Int} {a : Option Addr} {m c : Nat} {b : Nat} {tmps : Array Value} {w : World} (h2 : tmps.getD 2 undef = .pointer (some ⟨b, 0, none⟩))
    (hb : w.heap[b]? = some (.cells #[.int .i64 f, .slice a m c] 42 (0, 0))) : (results Tryd.f31 tmps).run Tryd.prog w = .ok (verV f a m c) w := by
  have c0 : w.cell? ⟨b, 0, none⟩ = some (.int .i64 f) := cell_of_row _ b 0 _ _ _ hb
  have c1 : w.cell? ⟨b, 1, none⟩ = some (.slice a m c) := cell_of_row _ b 1 _ _ _ hb
  simp only [Array.getD_eq_getD_getElem?] at h2
  simp [results, Tryd.results31, go_sem, h2, c0, c1]
def ReadE (B : Nat) (l : List UInt8) (e : Ending) (w' : World) : Prop := ∃ (f : Int) (a : Option Addr) (m c : Nat) (ps : List Int), e = .returned (verV f a m c) ∧ ps.length = m ∧ OwnP B w' (.slice a m c) ps ∧ RDone (pieces l) f ps ∧ m ≤ 1000000
end Go.Proofs.YthlpigffjbhmoaaDoor
