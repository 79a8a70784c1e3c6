/- HMAC as plain mathematics: the block of a key, pads, the tag. -/
import Derived.Test.YtkhhejkemkldgaaDoorSSum
set_option linter.unusedVariables false
set_option linter.unusedSimpArgs false
namespace Go.Proofs.YtkhhejkemkldgaaDoor
open Go.RowKit Go.Shelf
/-- What stands in a key's block, ahead of the noughts. -/
def keyB (ks : List Int) : List Int := if 64 < ks.length then sha ks else ks
def pad (c : Nat) (ks : List Int) : List Int := (List.range 64).map fun j => ((((keyB ks).getD j 0).toNat ^^^ c : Nat) : Int)
def tag (ks xs : List Int) : List Int := sha (pad 92 ks ++ sha (pad 54 ks ++ xs))
theorem sha_length (xs : List Int) : (sha xs).length = 32 := by simp [sha, joined]
theorem keyB_length (ks : List Int) : (keyB ks).length ≤ 64 := by
  unfold keyB; split
  · rw [sha_length]; decide
  · omega
theorem keyB_bytes {ks : List Int} (h : Bytes ks) : Bytes (keyB ks) := by
  unfold keyB; split
  · exact sha_bytes _
  · exact h
theorem pad_length (c : Nat) (ks : List Int) : (pad c ks).length = 64 := by simp [pad]
theorem pad_get (c : Nat) (ks : List Int) (j : Nat) (h : j < 64) : (pad c ks).getD j 0 = ((((keyB ks).getD j 0).toNat ^^^ c : Nat) : Int) := by simp [pad, List.getD, h]
theorem pad_bytes {ks : List Int} (h : Bytes ks) {c : Nat} (hc : c < 256) : Bytes (pad c ks) := fun x hx => by
  simp only [pad, List.mem_map, List.mem_range] at hx
  obtain ⟨j, _, rfl⟩ := hx
  have := (keyB_bytes h).get j
  have h2 : ((keyB ks).getD j 0).toNat ^^^ c < 2 ^ 8 := Nat.xor_lt_two_pow (by omega) (by omega)
  omega
theorem wraps_u8 : ∀ n : Int, 0 ≤ n → n < 2 ^ IntKind.u8.bits → IntKind.u8.wrap n = n := fun n h0 h1 => by
  have : (2 : Int) ^ IntKind.u8.bits = 256 := by decide
  rw [IntKind.wrap_u8]; omega
theorem xor_says {x : Int} {c : Nat} (h0 : 0 ≤ x) (h1 : x < 256) (hc : c < 256) : bits .xor .u8 x (c : Int) = ((x.toNat ^^^ c : Nat) : Int) := by
  have := bits_xor_nat .u8 wraps_u8 x.toNat c (by have : (2 : Nat) ^ IntKind.u8.bits = 256 := by decide
                                                  omega) (by have : (2 : Nat) ^ IntKind.u8.bits = 256 := by decide
                                                             omega)
  rwa [Int.toNat_of_nonneg h0] at this
/-- The first i bytes combined with the mask, the others not yet. -/
def half (c : Nat) (L : List Int) (i j : Nat) : Int := if j < i then (((L.getD j 0).toNat ^^^ c : Nat) : Int) else L.getD j 0
theorem half_none (c : Nat) (L : List Int) : half c L 0 = bf L := by funext j; simp [half, bf]
theorem half_at (c : Nat) (L : List Int) (i : Nat) : half c L i i = L.getD i 0 := by simp [half]
theorem half_step (c : Nat) (L : List Int) (i : Nat) : (fun j => if j = i then (((L.getD i 0).toNat ^^^ c : Nat) : Int) else half c L i j) = half c L (i + 1) := by
  funext j
  unfold half
  by_cases h : j = i
  · subst h; simp
  · by_cases h2 : j < i
    · simp [h, h2, show j < i + 1 by omega]
    · simp [h, h2, show ¬ j < i + 1 by omega]
theorem half_all (c : Nat) (ks : List Int) (j : Nat) (h : j < 64) : half c (keyB ks) 64 j = bf (pad c ks) j := by
  unfold half bf; rw [if_pos h, pad_get _ _ _ h]
theorem tag_bytes (ks xs : List Int) : Bytes (tag ks xs) := sha_bytes _
/-- Keys whose blocks are the same make the same tags. -/
theorem tag_congr {ks ls : List Int} (h : ∀ j, (keyB ks).getD j 0 = (keyB ls).getD j 0) (xs : List Int) : tag ks xs = tag ls xs := by
  have e : ∀ c, pad c ks = pad c ls := fun c => by
    unfold pad
    exact List.map_congr_left fun j _ => by rw [h j]
  unfold tag; rw [e, e]
theorem tag_long {ks : List Int} (h : 64 < ks.length) (xs : List Int) : tag (sha ks) xs = tag ks xs := tag_congr (fun j => by
  unfold keyB; rw [if_pos h, if_neg (by rw [sha_length]; decide)]) xs
theorem tag_zeros {ks : List Int} (n : Nat) (h : ks.length + n ≤ 64) (xs : List Int) : tag (ks ++ List.replicate n 0) xs = tag ks xs := tag_congr (fun j => by
  unfold keyB
  rw [if_neg (by simp; omega), if_neg (by omega)]
  by_cases h1 : j < ks.length
  · simp only [List.getD, List.getElem?_append_left h1]
  · simp only [List.getD, List.getElem?_append_right (by omega : ks.length ≤ j)]
    by_cases h2 : j - ks.length < n
    · simp [h2, List.getElem?_eq_none (by omega : ks.length ≤ j)]
    · simp [h2, List.getElem?_eq_none (by omega : ks.length ≤ j)]) xs
end Go.Proofs.YtkhhejkemkldgaaDoor
