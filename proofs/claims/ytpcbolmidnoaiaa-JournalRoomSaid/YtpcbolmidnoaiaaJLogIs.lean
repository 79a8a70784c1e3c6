/- What a device's sectors say of its log. -/
import Derived.Test.YtpcbolmidnoaiaaJCur
import Derived.Test.YtpcbolmidnoaiaaJLog
import Derived.Test.YtpcbolmidnoaiaaFExact
set_option linter.unusedVariables false
set_option linter.unusedSimpArgs false
namespace Go.Proofs.Ytpcbolmidnoaiaa
open Go.RowKit Go.Shelf
structure LogIs (d : Dv) (pl num top : Nat) (recs : List (List Int)) : Prop where
  up : d.down = false
  len : 4 ≤ d.safe.length ∧ d.safe.length ≤ 4000
  plc : pl ≤ 1
  head : wordN (d.read (pl : Nat)) 0 = num
  again : wordN (d.read (pl : Nat)) 120 = num
  fin : wordN (d.read (pl : Nat)) 8 = sizeN recs
  oth : wordN (d.read ((1 - pl : Nat) : Int)) 0 = wordN (d.read ((1 - pl : Nat) : Int)) 120 → wordN (d.read ((1 - pl : Nat) : Int)) 0 < num ∨ (wordN (d.read ((1 - pl : Nat) : Int)) 0 = num ∧ pl = 0)
  topm : top = max num (max (wordN (d.read ((1 - pl : Nat) : Int)) 0) (wordN (d.read ((1 - pl : Nat) : Int)) 120))
  small : top < 200
  fits : sizeN recs ≤ (d.safe.length - 2) * 128
  bytes : (logB d (d.safe.length - 2)).take (sizeN recs) = framesL recs
  isr : ∀ L ∈ recs, RecL L
def sup (d : Dv) (k : Nat) : List Int := d.read (k : Int)
theorem step_yes (c : Cu) (k : Nat) (L : List Int) (h : wordN L 0 = wordN L 120) (hc : c.found = false ∨ c.num < wordN L 0) : c.step k L = ⟨k, wordN L 0, wordN L 8, c.upd L, true⟩ := if_pos ⟨h, hc⟩
theorem step_no (c : Cu) (k : Nat) (L : List Int) (h : ¬ (wordN L 0 = wordN L 120 ∧ (c.found = false ∨ c.num < wordN L 0))) : c.step k L = { c with top := c.upd L } := if_neg h
theorem cu_eq {a b c d : Nat} {p n f t : Nat} (h1 : a = p) (h2 : b = n) (h3 : c = f) (h4 : d = t) : (⟨a, b, c, d, true⟩ : Cu) = ⟨p, n, f, t, true⟩ := by rw [h1, h2, h3, h4]
theorem cur_0 {A B : List Int} {num fin top : Nat} (h1 : wordN A 0 = num) (h2 : wordN A 120 = num) (h3 : wordN A 8 = fin) (h4 : wordN B 0 = wordN B 120 → wordN B 0 ≤ num) (h5 : top = max num (max (wordN B 0) (wordN B 120))) :
    ((⟨0, 0, 0, 0, false⟩ : Cu).step 0 A).step 1 B = ⟨0, num, fin, top, true⟩ := by
  rw [step_yes _ 0 A (h1.trans h2.symm) (.inl rfl), step_no _ 1 B (fun q => by
    rcases q.2 with e | e
    · cases e
    · have e' : wordN A 0 < wordN B 0 := e
      have := h4 q.1
      omega)]
  refine cu_eq rfl h1 h3 ?_
  show max (max (max (max 0 (wordN A 0)) (wordN A 120)) (wordN B 0)) (wordN B 120) = top
  omega
theorem cur_1 {A B : List Int} {num fin top : Nat} (h1 : wordN B 0 = num) (h2 : wordN B 120 = num) (h3 : wordN B 8 = fin) (h4 : wordN A 0 = wordN A 120 → wordN A 0 < num) (h5 : top = max num (max (wordN A 0) (wordN A 120))) :
    ((⟨0, 0, 0, 0, false⟩ : Cu).step 0 A).step 1 B = ⟨1, num, fin, top, true⟩ := by
  by_cases hv : wordN A 0 = wordN A 120
  · rw [step_yes _ 0 A hv (.inl rfl), step_yes _ 1 B (h1.trans h2.symm) (.inr (by show wordN A 0 < wordN B 0; have := h4 hv; omega))]
    refine cu_eq rfl h1 h3 ?_
    show max (max (max (max 0 (wordN A 0)) (wordN A 120)) (wordN B 0)) (wordN B 120) = top
    omega
  · rw [step_no _ 0 A (fun q => hv q.1), step_yes _ 1 B (h1.trans h2.symm) (.inl rfl)]
    refine cu_eq rfl h1 h3 ?_
    show max (max (max (max 0 (wordN A 0)) (wordN A 120)) (wordN B 0)) (wordN B 120) = top
    omega
/-- What is found of the superblocks. -/
theorem LogIs.cur {d : Dv} {pl num top : Nat} {recs : List (List Int)} (h : LogIs d pl num top recs) : curN (sup d) 2 = ⟨pl, num, sizeN recs, top, true⟩ := by
  obtain ⟨_, _, hp, h1, h2, h3, h4, h5, _, _, _, _⟩ := h
  rcases (show pl = 0 ∨ pl = 1 by omega) with rfl | rfl
  · exact cur_0 h1 h2 h3 (fun e => (h4 e).elim Nat.le_of_lt (fun q => Nat.le_of_eq q.1)) h5
  · exact cur_1 h1 h2 h3 (fun e => (h4 e).elim id (fun q => absurd q.2 (by decide))) h5
theorem framesL_len (l : List (List Int)) : (framesL l).length = sizeN l := rfl
end Go.Proofs.Ytpcbolmidnoaiaa
