/- Texts that are no plan's, told by the kernel. -/
import Derived.Test.YtmbimnphdhmapaaDoorDParse
set_option linter.unusedVariables false
set_option linter.unusedSimpArgs false
namespace Go.Proofs.YtmbimnphdhmapaaDoor
open Go.Lib
/-- A small number's numeral, by fuel. -/
def decF : Nat → Nat → List UInt8
  | 0, u => [UInt8.ofNat (48 + u)]
  | f + 1, u => if u < 10 then [UInt8.ofNat (48 + u)] else decF f (u / 10) ++ [UInt8.ofNat (48 + u % 10)]
theorem decF_eq : ∀ (f u : Nat), u < 10 ^ (f + 1) → decF f u = decDigits u
  | 0, u, h => by rw [decDigits, dif_pos (by simpa using h)]; rfl
  | f + 1, u, h => by
    unfold decF
    by_cases h10 : u < 10
    · rw [if_pos h10, decDigits, dif_pos h10]
    · rw [if_neg h10, decDigits, dif_neg h10, decF_eq f (u / 10) (by rw [Nat.pow_succ] at h; omega)]
def numF (l : List UInt8) : Option Int := match atoiAll l with
  | .ok n => if 0 ≤ n ∧ n < 10000 ∧ decF 3 n.toNat = l then some n else none
  | _ => none
theorem numF_itoa {n : Int} (h : 0 ≤ n) (h' : n < 10000) : numF (itoa n) = some n := by
  obtain ⟨u, rfl⟩ : ∃ u : Nat, n = (u : Int) := ⟨n.toNat, by omega⟩
  unfold numF
  rw [atoi_itoa (by unfold I64; omega)]
  simp only
  rw [if_pos ⟨h, h', by rw [itoa_nonneg, Int.toNat_natCast, decF_eq 3 u (by omega)]⟩]
def swF (p : List UInt8) : Option Sw := if (cut p [58]).2.2 then (match numF (cut p [58]).1, numF (cut p [58]).2.1 with
  | some m, some b => some ⟨m, b⟩
  | _, _ => none) else none
theorem cut_swL (x : Sw) : cut (swL x) [58] = (itoa x.m, itoa x.b, true) := by
  rcases cut_split 58 (swL x) with ⟨_, h⟩ | ⟨a, b, h1, h2, h3⟩
  · exact absurd (by unfold swL; simp) h
  · obtain ⟨rfl, rfl⟩ := split_unique (itoa_no (.inr rfl)) h2 (show itoa x.m ++ 58 :: itoa x.b = a ++ 58 :: b from h1)
    exact h3
theorem swF_swL {x : Sw} (h : 0 ≤ x.m ∧ x.m < 10000 ∧ 0 ≤ x.b ∧ x.b < 10000) : swF (swL x) = some x := by
  unfold swF
  rw [cut_swL]
  simp only [if_true]
  rw [numF_itoa h.1 h.2.1, numF_itoa h.2.2.1 h.2.2.2]
def allF : List (List UInt8) → Option (List Sw)
  | [] => some []
  | p :: r => match swF p, allF r with
    | some x, some xs => some (x :: xs)
    | _, _ => none
theorem allF_map : ∀ {xs : List Sw}, (∀ x ∈ xs, 0 ≤ x.m ∧ x.m < 10000 ∧ 0 ≤ x.b ∧ x.b < 10000) → allF (xs.map swL) = some xs
  | [], _ => rfl
  | x :: xs, h => by
    simp only [List.map_cons, allF]
    rw [swF_swL (h x (by simp)), allF_map (fun y hy => h y (List.mem_cons_of_mem _ hy))]
instance (xs : List Sw) : Decidable (PlanL xs) := by unfold PlanL; infer_instance
/-- No plan has this text. -/
def badF (s : List UInt8) : Bool := match allF (pieces s) with
  | some xs => !decide (PlanL xs)
  | none => true
theorem bad_of {s : List UInt8} (h : badF s = true) : ∀ xs, PlanL xs → s ≠ textL xs := by
  intro xs hx e
  unfold badF at h
  rw [e, pieces_text (plan_ne hx), allF_map (fun x hm => by
    obtain ⟨i, hi, rfl⟩ := List.getElem_of_mem hm
    have h1 := hx.2.2.2 i hi
    have h0 := plan_min hx i hi
    have e : xs.getD i ⟨0, 0⟩ = xs[i] := by simp [List.getD, hi]
    unfold SwOk at h1
    simp only [e] at h1 h0
    omega)] at h
  simp [hx] at h
/-- The statement's thirteen texts. -/
def bads : List (List UInt8) := [[48, 58, 49, 32, 51, 54, 48, 58, 50, 32, 51, 54, 48, 58, 49], [49, 58, 48], [48, 58, 56], [48, 58, 48, 49], [], [48], [48, 58], [58], [48, 58, 49, 32, 32, 53, 58, 49], [48, 58, 49, 32, 49, 52, 52, 48, 58, 50], [48, 48, 58, 49], [48, 58, 49, 32], [48, 58, 49, 58, 50]]
theorem bads_bad : ∀ k, k < 13 → badF (bads.getD k []) = true := by decide +kernel
theorem bads_len : ∀ k, k < 13 → (bads.getD k []).length ≤ 1000 := by decide +kernel
theorem some_text : textL [⟨0, 1⟩, ⟨360, 2⟩, ⟨1320, 1⟩] = [48, 58, 49, 32, 51, 54, 48, 58, 50, 32, 49, 51, 50, 48, 58, 49] := by
  have e : ∀ n : Int, 0 ≤ n → n < 10000 → itoa n = decF 3 n.toNat := fun n h h' => by
    obtain ⟨u, rfl⟩ : ∃ u : Nat, n = (u : Int) := ⟨n.toNat, by omega⟩
    rw [itoa_nonneg, Int.toNat_natCast, decF_eq 3 u (by omega)]
  unfold textL
  simp only [List.map_cons, List.map_nil, swL]
  rw [e 0 (by decide) (by decide), e 1 (by decide) (by decide), e 2 (by decide) (by decide), e 360 (by decide) (by decide), e 1320 (by decide) (by decide)]
  decide +kernel
end Go.Proofs.YtmbimnphdhmapaaDoor
