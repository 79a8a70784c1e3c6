/- What Parse's loop keeps. -/
import Derived.Test.YthlpigffjbhmoaaDoorEVerL
import Derived.Test.YthlpigffjbhmoaaDoorKScope
import Derived.Test.YthlpigffjbhmoaaDoorVChk
set_option linter.unusedVariables false
set_option linter.unusedSimpArgs false
namespace Go.Proofs.YthlpigffjbhmoaaDoor
open Go.RowKit Go.Shelf
/-- Rows whose prices the call made. -/
def RwO (B : Nat) (W : World) (xs : List Rw) (l : List Ve) : Prop := xs.length = l.length ∧ ∀ (i : Nat) (r : Rw) (v : Ve), xs[i]? = some r → l[i]? = some v → r.f = v.f ∧ r.n = v.ps.length ∧ OwnP B W (.slice r.a r.n r.c) v.ps
theorem RwO.nil (B : Nat) (W : World) : RwO B W [] [] := ⟨rfl, fun i r v h => by simp at h⟩
theorem OwnP.typed {B n c : Nat} {a : Option Addr} {W : World} {ps : List Int} (h : OwnP B W (.slice a n c) ps) : ∀ k, (Value.slice a n c).ownBlock = some k → B ≤ k ∧ k < W.heap.size ∧ ∃ cur, W.heap[k]? = some (.cells cur 2 (0, 0)) := by
  intro k hk
  have h1 := h.row k hk
  rcases h.2 with ⟨e, _⟩ | ⟨g, cap, cur, e, hg, hh, _⟩
  · rw [e] at hk; simp [Value.ownBlock] at hk
  · rw [e] at hk; simp [Value.ownBlock] at hk; subst hk; exact ⟨h1.1, h1.2, _, hh⟩
theorem OwnE.typed {B n c : Nat} {a : Option Addr} {W : World} {xs : List Rw} (h : OwnE B W (.slice a n c) xs) : ∀ k, (Value.slice a n c).ownBlock = some k → ∃ cur, W.heap[k]? = some (.cells cur 42 (0, 0)) := by
  intro k hk
  rcases h.2 with ⟨e, _⟩ | ⟨g, cap, cur, e, hg, hh, _⟩
  · rw [e] at hk; simp [Value.ownBlock] at hk
  · rw [e] at hk; simp [Value.ownBlock] at hk; subst hk; exact ⟨_, hh⟩
/-- Rows stay where no block of prices changes. -/
theorem RwO.kept {B : Nat} {W X : World} {xs : List Rw} {l : List Ve} (h : RwO B W xs l) (hk : ∀ k cur, B ≤ k → k < W.heap.size → W.heap[k]? = some (.cells cur 2 (0, 0)) → X.heap[k]? = W.heap[k]?) : RwO B X xs l :=
  ⟨h.1, fun i r v hr hv => let ⟨h1, h2, h3⟩ := h.2 i r v hr hv; ⟨h1, h2, h3.kept (fun k e => let ⟨q1, q2, cur, q3⟩ := h3.typed k e; hk k cur q1 q2 q3)⟩⟩
theorem RwO.below {B n : Nat} {W X : World} {xs : List Rw} {l : List Ve} (h : RwO B W xs l) (hB : Below n W X) (hn : W.heap.size ≤ n) : RwO B X xs l := h.kept (fun k _ _ hk _ => hB.block k (by omega))
theorem RwO.snoc {B : Nat} {W : World} {xs : List Rw} {l : List Ve} {r : Rw} {v : Ve} (h : RwO B W xs l) (h1 : r.f = v.f) (h2 : r.n = v.ps.length) (h3 : OwnP B W (.slice r.a r.n r.c) v.ps) : RwO B W (xs ++ [r]) (l ++ [v]) := by
  refine ⟨by simp [h.1], fun i r' v' hr hv => ?_⟩
  rcases Nat.lt_trichotomy i xs.length with q | q | q
  · rw [List.getElem?_append_left q] at hr
    rw [List.getElem?_append_left (by rw [← h.1]; exact q)] at hv
    exact h.2 i r' v' hr hv
  · subst q
    rw [List.getElem?_append_right (Nat.le_refl _), Nat.sub_self] at hr
    rw [h.1, List.getElem?_append_right (Nat.le_refl _), Nat.sub_self] at hv
    simp at hr hv
    subst hr
    subst hv
    exact ⟨h1, h2, h3⟩
  · rw [List.getElem?_eq_none (by simp; omega)] at hr
    cases hr
theorem RwO.rwis {B : Nat} {W : World} {xs : List Rw} {l : List Ve} (h : RwO B W xs l) : RwIs W W.heap.size xs l := by
  refine ⟨h.1, fun i r v hr hv => ?_⟩
  obtain ⟨h1, h2, h3⟩ := h.2 i r v hr hv
  have hc : r.n ≤ r.c ∧ r.c ≤ maxLen := by
    obtain ⟨a, c, e, k1, k2⟩ := h3.form
    injection e with _ _ e3
    rw [← e3] at k1 k2
    exact ⟨by omega, k2⟩
  refine ⟨h1, h2, hc, fun j p hp => ?_⟩
  obtain ⟨b, e, _, hb, hcell⟩ := h3.prs j p hp
  exact ⟨b, 0, e, hb, by omega, hcell⟩
theorem lines_shape : ∀ (n : Nat) (l : List UInt8), l.length ≤ n → ∀ pre x t, linesL l = pre ++ x :: t → x ≠ [] ∧ ((∃ y, x = y ++ [10] ∧ (10 : UInt8) ∉ y) ∨ ((10 : UInt8) ∉ x ∧ t.flatten = [])) := by
  intro n
  induction n with
  | zero => intro l hl pre x t h; cases l with
    | nil => simp [linesL] at h
    | cons c r => simp at hl
  | succ n ih =>
    intro l hl pre x t h
    rcases byte_split 10 l with ⟨_, hno⟩ | ⟨a, b, rfl, hno, _⟩
    · cases l with
      | nil => simp [linesL] at h
      | cons c r =>
        rw [lines_none hno (by simp)] at h
        cases pre with
        | nil => simp at h; obtain ⟨rfl, rfl⟩ := h; exact ⟨by simp, .inr ⟨hno, rfl⟩⟩
        | cons p pre => simp at h
    · rw [lines_app hno] at h
      cases pre with
      | nil => simp at h; obtain ⟨rfl, rfl⟩ := h; exact ⟨by simp, .inl ⟨a, rfl, hno⟩⟩
      | cons p pre => simp at h; exact ih b (by simp at hl; omega) pre x t h.2
theorem verIs_no {x : List UInt8} {l : List Ve} {v : Ve} {ok : Bool} (h : VerIs x v ok) (hno : ok = false ∨ ¬ Follows l v) : ∀ u, Follows l u → x ≠ lineL u := by
  intro u hu e
  cases ok with
  | false => exact h.2 rfl u hu.2.1 e
  | true =>
    rcases hno with q | q
    · cases q
    · obtain ⟨h1, h2, _⟩ := h.1 rfl
      obtain ⟨rfl, _⟩ := line_split (a := []) (b := []) h1 (ver_64 hu.2.1) (by rw [List.append_nil, List.append_nil, ← h2, e])
      exact q hu
/-- What Parse answers. -/
def ParsE (s : List UInt8) (e : Ending) (w' : World) : Prop := ∃ (l : List Ve) (a : Option Addr) (c : Nat) (n er : Int), e = .returned (.tuple #[.slice a l.length c, .int .i64 n, .int .i64 er]) ∧ VesAt w'.heap.size w' a l ∧ (l.length ≤ c ∧ c ≤ maxLen) ∧ ParseIs s l n er
/-- The tables of the lines read so far. -/
def SoFar (pre : List (List UInt8)) (l : List Ve) : Prop := TabMay l ∧ pre.flatten = textL l ∧ l.length = pre.length
theorem soFar_nil : SoFar [] [] := ⟨tab_nil, rfl, rfl⟩
theorem soFar_snoc {pre : List (List UInt8)} {l : List Ve} {x : List UInt8} {v : Ve} (h : SoFar pre l) (hv : VerIs x v true) (hf : Follows l v) : SoFar (pre ++ [x]) (l ++ [v]) := by
  obtain ⟨h1, h2, h3⟩ := h
  obtain ⟨_, h4, _⟩ := hv.1 rfl
  refine ⟨(tab_snoc l v).2 ⟨h1, hf⟩, ?_, by simp [h3]⟩
  rw [List.flatten_append, h2, textL_app, textL_one, h4]
  simp
def Stopped (q : List (List UInt8)) (n : Int) : Prop := ∃ pre x l, q = pre ++ [x] ∧ SoFar pre l ∧ (∀ u, Follows l u → x ≠ lineL u) ∧ n = (pre.length : Int) + 1
theorem parse_yes {s : List UInt8} {l : List Ve} (h : SoFar (linesL s) l) : ParseIs s l 0 0 := .inl ⟨h.1, by rw [← h.2.1, lines_flat], rfl, rfl⟩
theorem parse_stop {s : List UInt8} {q : List (List UInt8)} {n : Int} (hq : q <+: linesL s) (h : Stopped q n) : ParseIs s [] n 100 := by
  obtain ⟨pre, x, l, rfl, h1, h2, rfl⟩ := h
  obtain ⟨t, ht⟩ := hq
  rw [List.append_assoc] at ht
  obtain ⟨k1, k2⟩ := lines_shape s.length s (Nat.le_refl _) pre x t ht.symm
  refine .inr ⟨rfl, rfl, l, x ++ t.flatten, h1.1, ?_, ?_, by rw [h1.2.2], no_line k2 h2⟩
  · rw [← h1.2.1, ← lines_flat s, ← ht]; simp
  · intro e
    exact k1 (List.append_eq_nil_iff.1 e).1
theorem results_p {x y z : Value} {tmps : Array Value} {w : World} (h2 : tmps.getD 2 undef = x) (h3 : tmps.getD 3 undef = y) (h4 : tmps.getD 4 undef = z) : (results Tryd.f11 tmps).run Tryd.prog w = .ok (.tuple #[x, y, z]) w := by
  simp only [Array.getD_eq_getD_getElem?] at h2 h3 h4
  simp [results, Tryd.results11, go_sem, h2, h3, h4]
end Go.Proofs.YthlpigffjbhmoaaDoor
