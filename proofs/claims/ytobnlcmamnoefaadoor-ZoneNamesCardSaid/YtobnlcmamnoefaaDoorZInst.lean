/- The document's Instants: what is there before the walk. -/
import Derived.Test.YtobnlcmamnoefaaDoorZRefuse
import Derived.Test.YtobnlcmamnoefaaDoorSI
set_option linter.unusedVariables false
set_option linter.unusedSimpArgs false
namespace Go.Proofs.YtobnlcmamnoefaaDoor
open Go.RowKit Go.Shelf
theorem elem64 : Tryd.prog.elem 52 = 2 := by kernel_rfl
theorem size64 (W : World) : (sizeOf 2).run Tryd.prog W = .ok 1 W := by
  obtain ⟨i, hi, _, hs, _⟩ := partsI
  simp [sizeOf, typeInfo, hi, hs]
theorem slice_to (W : World) (a : Option Addr) (len c p : Nat) (hp : p ≤ c) : (Instr.slice 52 (.slice a len c) none (some (.int .i64 (p : Int))) none).run Tryd.prog W = .ok (.slice a p c) W := by
  rw [run_slice_h W 52 a len c (by rw [elem64]; exact Tryd.underlying52) .i64 p (by omega) (by omega), elem64, size64]
  simp [Result.andThen, sliced]
  intro _
  cases a <;> simp [Addr.add]
theorem slice_from {base : Nat} {W : World} {a : Option Addr} {n c : Nat} {xs : List Int} (h : OwnI base W (.slice a n c) xs) (hn : n = xs.length) (p : Nat) (hp : p ≤ n) :
    ∃ A m c', (Instr.slice 52 (.slice a n c) (some (.int .i64 (p : Int))) none none).run Tryd.prog W = .ok (.slice A m c') W ∧ BysI W.heap.size W (.slice A m c') (xs.drop p) := by
  rw [run_slice_l W 52 a n c (by rw [elem64]; exact Tryd.underlying52) .i64 p (by omega) (by omega), elem64, size64]
  simp only [Result.andThen, sliced]
  by_cases hpn : p = n
  · subst hpn
    refine ⟨_, _, _, rfl, ?_⟩
    simp only [Int.toNat_natCast, Nat.sub_self]
    rw [List.drop_of_length_le (by omega)]
    exact bysI_nil _ _ _ _
  · obtain ⟨g, rfl, hg, hlt⟩ := h.at_ (by omega)
    have hc := h.cap
    have hb := h.bys
    subst hn
    refine ⟨some ⟨g, p, none⟩, xs.length - p, c - p, ?_, ?_⟩
    · simp only [Int.toNat_natCast, Option.map_some, Nat.mul_one]
      rw [if_neg (by omega), Go.Addr.add_mid, Nat.zero_add]
    · have := hb.drop p (by omega) (c - p)
      rw [Nat.zero_add] at this
      exact this
theorem drop_ok {base : Nat} {W : World} {a : Option Addr} {n c : Nat} {xs : List Int} (h : OwnI base W (.slice a n c) xs) : n = xs.length := by
  obtain ⟨a', c', e⟩ := h.form
  cases e
  rfl
/-- The offset by the k-th rule's extra; by none for 0. -/
def nK (off : Int) (R : Nat → Rl) (k : Nat) : Int := if k = 0 then off else off + (R (k - 1)).x
instance (off : Int) (R : Nat → Rl) (len : Nat) (t : Int) : Decidable (OffIs off R len t) := by unfold OffIs; infer_instance
def offT (off : Int) (R : Nat → Rl) (len : Nat) (t : Int) : Int := nOf off R len (yearI (t + off)) (t + off)
def hitK (off : Int) (R : Nat → Rl) (len : Nat) (loc : Int) (k : Nat) : Prop := OffIs off R len (loc - nK off R k) ∧ offT off R len (loc - nK off R k) = nK off R k
instance (off : Int) (R : Nat → Rl) (len : Nat) (loc : Int) (k : Nat) : Decidable (hitK off R len loc k) := by unfold hitK; infer_instance
def placeI (l : List Int) (t : Int) : Nat := (l.takeWhile (fun x => decide (x < t))).length
def insI (l : List Int) (t : Int) : List Int := if placeI l t < l.length ∧ l.getD (placeI l t) 0 = t then l else l.take (placeI l t) ++ [t] ++ l.drop (placeI l t)
def stepI (off : Int) (R : Nat → Rl) (len : Nat) (loc : Int) (k : Nat) (l : List Int) : List Int := if hitK off R len loc k then insI l (loc - nK off R k) else l
def runI (off : Int) (R : Nat → Rl) (len : Nat) (loc : Int) : Nat → List Int → List Int
  | 0, l => l
  | j + 1, l => runI off R len loc j (stepI off R len loc j l)
theorem place_is {l : List Int} {t : Int} {p : Nat} (hp : p ≤ l.length) (h : ∀ q, q < p → l.getD q 0 < t) (hn : p = l.length ∨ ¬ l.getD p 0 < t) : placeI l t = p := by
  unfold placeI
  induction l generalizing p with
  | nil => simp at hp; simp [hp]
  | cons x l ih =>
    cases p with
    | zero =>
      have : ¬ x < t := by simpa using hn
      rw [List.takeWhile_cons_of_neg (by simpa using this)]; rfl
    | succ p =>
      have hx : x < t := by simpa using h 0 (by omega)
      rw [List.takeWhile_cons_of_pos (by simpa using hx), List.length_cons, ih (p := p) (by simpa using hp) (fun q hq => by simpa using h (q + 1) (by omega)) (by simpa using hn)]
theorem placeI_le (l : List Int) (t : Int) : placeI l t ≤ l.length := by
  unfold placeI
  exact (List.takeWhile_sublist _).length_le
theorem insI_le (l : List Int) (t : Int) : (insI l t).length ≤ l.length + 1 := by
  unfold insI
  split
  · omega
  · simp; omega
theorem own_cell {base : Nat} {W : World} {a : Option Addr} {n c : Nat} {xs : List Int} (h : OwnI base W (.slice a n c) xs) (p : Nat) (hp : p < xs.length) : ∃ g, a = some ⟨g, 0, none⟩ ∧ W.cell? ⟨g, p, none⟩ = some (.int .i64 (xs.getD p 0)) := by
  have hn := drop_ok h
  obtain ⟨g, rfl, _, _⟩ := h.at_ (by omega)
  obtain ⟨_, ⟨rfl, _⟩ | ⟨b, off, cap', e, hb, hc⟩⟩ := h.bys
  · simp at hp
  · cases e
    have := hc p hp
    rw [Nat.zero_add] at this
    exact ⟨_, rfl, this⟩
end Go.Proofs.YtobnlcmamnoefaaDoor
