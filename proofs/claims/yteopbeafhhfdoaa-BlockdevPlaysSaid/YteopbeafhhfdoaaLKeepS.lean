/- Eight strings, and eight rows of strings. -/
import Derived.Test.YteopbeafhhfdoaaLKeepM
set_option linter.unusedVariables false
set_option linter.unusedSimpArgs false
namespace Go.Proofs.Yteopbeafhhfdoaa
open Go.RowKit
def tab8 (f : Nat → Value) : Array Value := ((List.range 8).map f).toArray
theorem tab8_get (f : Nat → Value) (j : Nat) (hj : j < 8) : (tab8 f)[j]? = some (f j) := by simp [tab8, hj]
theorem tab8_set (f : Nat → Value) (j : Nat) (x : Value) (hj : j < 8) : (tab8 f).setIfInBounds j x = tab8 (fun i => if i = j then x else f i) := by
  apply Array.ext_getElem?
  intro i
  rw [Array.getElem?_setIfInBounds]
  by_cases h : j = i
  · subst h; simp [tab8, hj]
  · rw [if_neg h]
    by_cases hi : i < 8
    · simp [tab8, hi, show ¬ i = j from fun e => h e.symm]
    · simp [tab8, hi]
def strs (xs : List ByteArray) : List Value := xs.map Value.string
theorem str_parts : ∃ i, Try.prog.info? 9 = some i ∧ i.zero = some (.string ByteArray.empty) ∧ i.size = 1 ∧ i.bytes = 16 := by
  have h : (Try.prog.info? 9).map (fun i => (i.zero, i.size, i.bytes)) = some (some (.string ByteArray.empty), 1, 16) := by kernel_rfl
  cases hi : Try.prog.info? 9 with
  | none => rw [hi] at h; cases h
  | some i => rw [hi] at h; simp at h; exact ⟨i, rfl, h.1, h.2.1, h.2.2⟩
theorem run_append_str (w : World) (ty : Nat) (v : Value) (xs : List ByteArray) (s : ByteArray) (h : w.ownsRow 0 9 1 v xs.length (strs xs)) (hl : xs.length ≤ 100000) (g : Nat) (hg : At 9 w g #[.string s]) :
    ∃ v' w', (Builtin.append_ #[65, 65] ty #[v, .slice (some ⟨g, 0, none⟩) 1 1]).run Try.prog w = .ok v' w' ∧ w'.ownsRow 0 9 1 v' (xs ++ [s]).length (strs (xs ++ [s])) ∧ w.grownBy w' v.ownBlock ∧ (v'.ownBlock = v.ownBlock ∨ v'.ownBlock = some w.heap.size) := by
  obtain ⟨i, hi, hz, hs, hb⟩ := str_parts
  obtain ⟨v', w', h1, h2, h3, _, h5⟩ := run_append_own_at (P := Try.prog) w 0 65 ty 9 i _ 1 16 Try.underlying65 hi hz hs hb rfl (by decide) v xs.length (strs xs) h ⟨g, 0, none⟩ 1 1 [.string s] rfl
    (fun j u hu => by
      cases j with
      | zero =>
        have : Value.string s = u := by simpa using hu
        rw [Addr.add_mid, Nat.zero_add, hg.cell, ← this]; rfl
      | succ j => simp at hu) (fun u hu => by rw [List.mem_singleton.1 hu]; rfl) (by unfold maxLen; omega) (by omega) (Nat.zero_le _)
  refine ⟨v', w', h1, ?_, h3, h5⟩
  rw [List.length_append]
  unfold strs at h2 ⊢
  rw [List.map_append]
  exact h2
/-- The eight rows. -/
structure AllAt (B : Nat) (W : World) (AA : Nat) (v : Nat → Value) (H : Nat → List ByteArray) : Prop where
  at_ : At 66 W AA (tab8 v)
  row : ∀ n, n < 8 → W.ownsRow 0 9 1 (v n) (H n).length (strs (H n))
  apart : ∀ n m, n < 8 → m < 8 → n ≠ m → ∀ k, (v n).ownBlock = some k → (v m).ownBlock ≠ some k
  fresh : B ≤ AA ∧ ∀ n, n < 8 → ∀ k, (v n).ownBlock = some k → B ≤ k
section
variable {B AA : Nat} {W W' : World} {v : Nat → Value} {H : Nat → List ByteArray} {p p' : Pl} {d : Dv}
theorem row_type {x : Value} {n : Nat} {xs : List Value} {T : TypeId} {z : Nat} (h : W.ownsRow 0 T z x n xs) {k : Nat} (hk : x.ownBlock = some k) : ∃ cs, W.heap[k]? = some (.cells cs T (0, 0)) := by
  rcases h.2 with ⟨e, _⟩ | ⟨g, cap, cur, e, _, hh, _⟩
  · rw [e] at hk; cases hk
  · rw [e] at hk; cases hk; exact ⟨_, hh⟩
theorem not_own (hd : DevAt W p d) {k : Nat} {cs : Array Value} {T : TypeId} {fr : Nat × Nat} (h : W.heap[k]? = some (.cells cs T fr)) (hT : T ≠ 62 ∧ T ≠ 72 ∧ T ≠ 75) : ¬ own p k := fun ho => by
  obtain ⟨cs', fr', T', h1, h2⟩ := hd.typed k ho
  rw [h] at h1
  cases h1
  rcases h2 with e | e | e
  · exact hT.1 e
  · exact hT.2.1 e
  · exact hT.2.2 e
theorem AllAt.step (h : AllAt B W AA v H) (hd : DevAt W p d) (hS : Step p p' W W') : AllAt B W' AA v H :=
  ⟨h.at_.upd hS.upd (not_own hd h.at_ (by decide)), fun n hn => ownsRow_upd (h.row n hn) hS.upd (fun k e => let ⟨cs, hc⟩ := row_type (h.row n hn) e; not_own hd hc (by decide)), h.apart, h.fresh⟩
theorem AllAt.next (h : AllAt B W AA v H) (hB : Below W.heap.size W W') : AllAt B W' AA v H :=
  ⟨h.at_.below h.at_.lt hB, fun n hn => ownsRow_upd (h.row n hn) (Upd.of hB (fun _ => False)) (fun _ _ q => q), h.apart, h.fresh⟩
/-- A block of another kind is written. -/
theorem DevSt.kind {w : World} {D : Nat} (h : DevSt B w D W p d) {O : Nat → Prop} (hu : Upd O W W') (hO : ∀ k, O k → B ≤ k ∧ ∃ cs fr T, W.heap[k]? = some (.cells cs T fr) ∧ (T ≠ 62 ∧ T ≠ 72 ∧ T ≠ 75) ∧ T ≠ 3) : DevSt B w D W' p d := by
  refine ⟨h.dev.upd hu (fun k hk hok => ?_) (fun e => ?_) (fun e => ?_), h.fresh, h.below.trans (hu.below (fun j e => (hO j e).1) h.le), h.D, Nat.le_trans h.le hu.size⟩
  · obtain ⟨_, cs, fr, T, h1, h2, _⟩ := hO k hok
    exact not_own h.dev h1 h2 hk
  · obtain ⟨_, cs, fr, T, h1, _, h2⟩ := hO _ e
    have := h.dev.b1
    unfold At at this
    rw [this] at h1
    cases h1
    exact h2 rfl
  · obtain ⟨_, cs, fr, T, h1, _, h2⟩ := hO _ e
    have := h.dev.b2
    unfold At at this
    rw [this] at h1
    cases h1
    exact h2 rfl
/-- What an append to row n, and its store, turn. -/
def pushO (AA : Nat) (x : Value) (k : Nat) : Prop := k = AA ∨ x.ownBlock = some k
theorem AllAt.pushO (h : AllAt B W AA v H) {n : Nat} (hn : n < 8) : ∀ k, pushO AA (v n) k → B ≤ k ∧ ∃ cs fr T, W.heap[k]? = some (.cells cs T fr) ∧ (T ≠ 62 ∧ T ≠ 72 ∧ T ≠ 75) ∧ T ≠ 3 := by
  rintro k (rfl | hk)
  · exact ⟨h.fresh.1, _, _, _, h.at_, by decide, by decide⟩
  · obtain ⟨cs, hc⟩ := row_type (h.row n hn) hk
    exact ⟨h.fresh.2 n hn k hk, cs, _, _, hc, by decide, by decide⟩
theorem AllAt.push (h : AllAt B W AA v H) {n : Nat} (hn : n < 8) {X : World} {x : Value} {s : ByteArray} (hx : W.grownBy X (v n).ownBlock ∨ ∃ Y, Below W.heap.size W Y ∧ Y.grownBy X (v n).ownBlock) (hB : B ≤ W.heap.size)
    (ho : X.ownsRow 0 9 1 x (H n ++ [s]).length (strs (H n ++ [s]))) (hv : x.ownBlock = (v n).ownBlock ∨ ∃ k, x.ownBlock = some k ∧ W.heap.size ≤ k) :
    AllAt B (X.setCell ⟨AA, n, none⟩ x) AA (fun i => if i = n then x else v i) (fun i => if i = n then H n ++ [s] else H i) ∧ Upd (Go.Proofs.Yteopbeafhhfdoaa.pushO AA (v n)) W (X.setCell ⟨AA, n, none⟩ x) := by
  have hu : Upd (fun k => (v n).ownBlock = some k) W X := by
    rcases hx with hg | ⟨Y, hY, hg⟩
    · exact (Upd.refl _ W).grown hg (fun r e => .inl e)
    · exact (Upd.of hY _).grown hg (fun r e => .inl e)
  have hAA : ¬ (v n).ownBlock = some AA := fun e => by
    obtain ⟨cs, hc⟩ := row_type (h.row n hn) e
    have := h.at_
    unfold At at this
    rw [this] at hc
    cases hc
  have hat : At 66 X AA (tab8 v) := h.at_.upd hu hAA
  have hxAA : x.ownBlock ≠ some AA := fun e => by
    rcases hv with q | ⟨k, q, hk⟩
    · rw [q] at e; exact hAA e
    · rw [q] at e; cases e; have := h.at_.lt; omega
  have hu1 : Upd (fun k => k = AA) X (X.setCell ⟨AA, n, none⟩ x) := (Upd.refl (fun k => k = AA) X).setCell (p := ⟨AA, n, none⟩) (.inl rfl) _
  have hu2 : Upd (Go.Proofs.Yteopbeafhhfdoaa.pushO AA (v n)) W (X.setCell ⟨AA, n, none⟩ x) := (hu.mono (fun j e => .inr e)).setCell (p := ⟨AA, n, none⟩) (.inl (.inl rfl)) _
  refine ⟨⟨?_, fun m hm => ?_, fun i j hi hj hij k hk => ?_, h.fresh.1, fun m hm k hk => ?_⟩, hu2⟩
  · rw [← tab8_set v n x hn]; exact hat.set n x
  · by_cases e : m = n
    · simp only [if_pos e]
      exact ownsRow_upd ho hu1 (fun k hk q => hxAA (by rw [hk]; exact congrArg some q))
    · simp only [if_neg e]
      refine ownsRow_upd (h.row m hm) hu2 (fun k hk q => ?_)
      rcases q with q | q
      · obtain ⟨cs, hc⟩ := row_type (h.row m hm) hk
        have := h.at_
        unfold At at this
        rw [q, this] at hc
        cases hc
      · exact h.apart m n hm hn e k hk q
  · have hxw : ∀ m, m < 8 → m ≠ n → ∀ k, x.ownBlock = some k → (v m).ownBlock ≠ some k := fun m hm hmn k hk q => by
      rcases hv with r | ⟨k', r, hk'⟩
      · rw [r] at hk; exact h.apart n m hn hm (fun e => hmn e.symm) k hk q
      · rw [r] at hk; cases hk
        have := ((h.row m hm).lt k q).2
        omega
    by_cases e1 : i = n
    · simp only [if_pos e1] at hk
      by_cases e2 : j = n
      · exact absurd (e1.trans e2.symm) hij
      · simp only [if_neg e2]; exact hxw j hj e2 k hk
    · simp only [if_neg e1] at hk
      by_cases e2 : j = n
      · simp only [if_pos e2]; exact fun q => hxw i hi e1 k q hk
      · simp only [if_neg e2]; exact h.apart i j hi hj hij k hk
  · by_cases e : m = n
    · simp only [if_pos e] at hk
      rcases hv with r | ⟨k', r, hk'⟩
      · rw [r] at hk; exact h.fresh.2 n hn k hk
      · rw [r] at hk; cases hk; omega
    · simp only [if_neg e] at hk; exact h.fresh.2 m hm k hk
end
theorem AllAt.form {B AA : Nat} {W : World} {v : Nat → Value} {H : Nat → List ByteArray} (h : AllAt B W AA v H) {n : Nat} (hn : n < 8) (h0 : 0 < (H n).length) : ∃ g c, v n = .slice (some ⟨g, 0, none⟩) (H n).length c ∧ ∀ j, j < (H n).length → W.cell? ⟨g, j, none⟩ = some (.string ((H n).getD j ByteArray.empty)) := by
  rcases (h.row n hn).2 with ⟨_, e⟩ | ⟨g, cap, cur, e, _⟩
  · omega
  · have hO := h.row n hn
    rw [e] at hO
    refine ⟨g, cap, e, fun j hj => ?_⟩
    rw [hO.cellAt j (by omega)]
    simp [strs, List.getD, hj]
/-- A row as it is loaded. -/
theorem AllAt.slice {B AA : Nat} {W : World} {v : Nat → Value} {H : Nat → List ByteArray} (h : AllAt B W AA v H) {n : Nat} (hn : n < 8) : ∃ a c, v n = .slice a (H n).length c := by
  rcases (h.row n hn).2 with ⟨e, e2⟩ | ⟨g, cap, cur, e, _⟩
  · exact ⟨none, 0, by rw [e, e2]⟩
  · exact ⟨_, _, e⟩
theorem tab_zero_s : (Try.prog.info? 64).map (fun i => (i.zero, i.size)) = some (some (.agg (tab8 fun _ => .string ByteArray.empty)), 8) := by kernel_rfl
theorem tab_zero_a : (Try.prog.info? 66).map (fun i => (i.zero, i.size)) = some (some (.agg (tab8 fun _ => .slice none 0 0)), 8) := by kernel_rfl
theorem AllAt.new (W : World) {B : Nat} (hB : B ≤ W.heap.size) : AllAt B (W.alloc (.cells (tab8 fun _ => .slice none 0 0) 66)) W.heap.size (fun _ => .slice none 0 0) (fun _ => []) :=
  ⟨At.new _ W _, fun n _ => World.ownsRow_nil _ _ _ _, fun n m _ _ _ k e => (by cases e), hB, fun n _ k e => (by cases e)⟩
end Go.Proofs.Yteopbeafhhfdoaa
