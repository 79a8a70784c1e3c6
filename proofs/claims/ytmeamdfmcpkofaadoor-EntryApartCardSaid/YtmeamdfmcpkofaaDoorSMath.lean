/- SHA-256 as plain mathematics: words, rounds, blocks, padding, the text of a hash. -/
import Derived.Laws.BitsLemmas
set_option linter.unusedVariables false
set_option linter.unusedSimpArgs false
namespace Go.Proofs.YtmeamdfmcpkofaaDoor
def rotr (n x : Nat) : Nat := (x * 2 ^ (32 - n)) % 4294967296 ||| x / 2 ^ n
def low0 (x : Nat) : Nat := (rotr 7 x ^^^ rotr 18 x) ^^^ (x / 8)
def low1 (x : Nat) : Nat := (rotr 17 x ^^^ rotr 19 x) ^^^ (x / 1024)
def high0 (x : Nat) : Nat := (rotr 2 x ^^^ rotr 13 x) ^^^ rotr 22 x
def high1 (x : Nat) : Nat := (rotr 6 x ^^^ rotr 11 x) ^^^ rotr 25 x
def choose (e f g : Nat) : Nat := (e &&& f) ^^^ ((4294967295 ^^^ e) &&& g)
def major (a b c : Nat) : Nat := ((a &&& b) ^^^ (a &&& c)) ^^^ (b &&& c)
def roots : List Nat := [
  0x428a2f98, 0x71374491, 0xb5c0fbcf, 0xe9b5dba5, 0x3956c25b, 0x59f111f1, 0x923f82a4, 0xab1c5ed5,
  0xd807aa98, 0x12835b01, 0x243185be, 0x550c7dc3, 0x72be5d74, 0x80deb1fe, 0x9bdc06a7, 0xc19bf174,
  0xe49b69c1, 0xefbe4786, 0x0fc19dc6, 0x240ca1cc, 0x2de92c6f, 0x4a7484aa, 0x5cb0a9dc, 0x76f988da,
  0x983e5152, 0xa831c66d, 0xb00327c8, 0xbf597fc7, 0xc6e00bf3, 0xd5a79147, 0x06ca6351, 0x14292967,
  0x27b70a85, 0x2e1b2138, 0x4d2c6dfc, 0x53380d13, 0x650a7354, 0x766a0abb, 0x81c2c92e, 0x92722c85,
  0xa2bfe8a1, 0xa81a664b, 0xc24b8b70, 0xc76c51a3, 0xd192e819, 0xd6990624, 0xf40e3585, 0x106aa070,
  0x19a4c116, 0x1e376c08, 0x2748774c, 0x34b0bcb5, 0x391c0cb3, 0x4ed8aa4a, 0x5b9cca4f, 0x682e6ff3,
  0x748f82ee, 0x78a5636f, 0x84c87814, 0x8cc70208, 0x90befffa, 0xa4506ceb, 0xbef9a3f7, 0xc67178f2]
def initial : List Nat := [0x6a09e667, 0xbb67ae85, 0x3c6ef372, 0xa54ff53a, 0x510e527f, 0x9b05688c, 0x1f83d9ab, 0x5be0cd19]
/-- The eight words of a round. -/
structure Eight where
  (a b c d e f g h : Nat)
def Eight.ok (s : Eight) : Prop := s.a < 4294967296 ∧ s.b < 4294967296 ∧ s.c < 4294967296 ∧ s.d < 4294967296 ∧ s.e < 4294967296 ∧ s.f < 4294967296 ∧ s.g < 4294967296 ∧ s.h < 4294967296
def turnX (s : Eight) (k w : Nat) : Nat := (s.h + high1 s.e + choose s.e s.f s.g + k + w) % 4294967296
def turnY (s : Eight) : Nat := (high0 s.a + major s.a s.b s.c) % 4294967296
def turn (s : Eight) (k w : Nat) : Eight :=
  ⟨(turnX s k w + turnY s) % 4294967296, s.a, s.b, s.c, (s.d + turnX s k w) % 4294967296, s.e, s.f, s.g⟩
def Eight.of (s : List Nat) : Eight := ⟨s.getD 0 0, s.getD 1 0, s.getD 2 0, s.getD 3 0, s.getD 4 0, s.getD 5 0, s.getD 6 0, s.getD 7 0⟩
def Eight.list (s : Eight) : List Nat := [s.a, s.b, s.c, s.d, s.e, s.f, s.g, s.h]
/-- k rounds, by the words w. -/
def turns (s : Eight) (w : List Nat) : Nat → Eight
  | 0 => s
  | k + 1 => turn (turns s w k) (roots.getD k 0) (w.getD k 0)
/-- Word q of a block. -/
def wordAt (b : List Int) (q : Nat) : Nat := (((b.getD (4 * q) 0).toNat * 256 + (b.getD (4 * q + 1) 0).toNat) * 256 + (b.getD (4 * q + 2) 0).toNat) * 256 + (b.getD (4 * q + 3) 0).toNat
/-- The first 16 + n words of a block. -/
def sched (b : List Int) : Nat → List Nat
  | 0 => (List.range 16).map (wordAt b)
  | n + 1 => sched b n ++ [(low1 ((sched b n).getD (14 + n) 0) + (sched b n).getD (9 + n) 0 + low0 ((sched b n).getD (1 + n) 0) + (sched b n).getD n 0) % 4294967296]
def words (b : List Int) : List Nat := sched b 48
def plus (a b : List Nat) : List Nat := (List.range 8).map fun i => (a.getD i 0 + b.getD i 0) % 4294967296
/-- What a block makes of a state, without the state itself. -/
def comp (s : List Nat) (b : List Int) : List Nat := (turns (Eight.of s) (words b) 64).list
/-- Block n of bytes. -/
def blk (xs : List Int) (n : Nat) : List Int := (List.range 64).map fun j => xs.getD (64 * n + j) 0
/-- What the first n blocks have added to the first state. -/
def adds (xs : List Int) : Nat → List Nat
  | 0 => [0, 0, 0, 0, 0, 0, 0, 0]
  | n + 1 => plus (adds xs n) (comp (plus initial (adds xs n)) (blk xs n))
def joined (s : List Nat) : List Int := (List.range 32).map fun i => ((s.getD (i / 4) 0 / 2 ^ (24 - 8 * (i % 4)) % 256 : Nat) : Int)
/-- The bytes of n, the first of most weight. -/
def big8 (n : Nat) : List Int := (List.range 8).map fun i => ((n / 2 ^ (56 - 8 * i) % 256 : Nat) : Int)
def padZeros (n : Nat) : Nat := (119 - n % 64) % 64
def padding (n : Nat) : List Int := 128 :: (List.replicate (padZeros n) 0 ++ big8 (n * 8 % 18446744073709551616))
/-- The hash of bytes. -/
def sha (xs : List Int) : List Int :=
  joined (plus initial (adds (xs ++ padding xs.length) ((xs ++ padding xs.length).length / 64)))
def digit (n : Nat) : Nat := if n < 10 then 48 + n else 87 + n
/-- The text of a hash. -/
def texted (h : List Int) : List Int := (List.range 64).map fun i => (digit (if i % 2 = 0 then (h.getD (i / 2) 0).toNat / 16 else (h.getD (i / 2) 0).toNat % 16) : Int)
theorem padZeros_eq (n : Nat) : (n + 1 + padZeros n + 8) % 64 = 0 := by unfold padZeros; omega
theorem padding_length (n : Nat) : (padding n).length = 9 + padZeros n := by simp [padding, big8]; omega
theorem padded_length (xs : List Int) : (xs ++ padding xs.length).length % 64 = 0 := by
  rw [List.length_append, padding_length]; have := padZeros_eq xs.length; omega
theorem rotr_lt (n x : Nat) (h : x < 4294967296) : rotr n x < 4294967296 := by
  refine Nat.or_lt_two_pow (n := 32) (Nat.mod_lt _ (by decide)) (Nat.lt_of_le_of_lt (Nat.div_le_self _ _) h)
theorem xor_lt32 {a b : Nat} (h : a < 4294967296) (h2 : b < 4294967296) : a ^^^ b < 4294967296 := Nat.xor_lt_two_pow (n := 32) h h2
theorem and_lt32 {a b : Nat} (h2 : b < 4294967296) : a &&& b < 4294967296 := Nat.and_lt_two_pow (n := 32) a h2
theorem low0_lt {x : Nat} (h : x < 4294967296) : low0 x < 4294967296 := xor_lt32 (xor_lt32 (rotr_lt _ _ h) (rotr_lt _ _ h)) (by omega)
theorem low1_lt {x : Nat} (h : x < 4294967296) : low1 x < 4294967296 := xor_lt32 (xor_lt32 (rotr_lt _ _ h) (rotr_lt _ _ h)) (by omega)
theorem high0_lt {x : Nat} (h : x < 4294967296) : high0 x < 4294967296 := xor_lt32 (xor_lt32 (rotr_lt _ _ h) (rotr_lt _ _ h)) (rotr_lt _ _ h)
theorem high1_lt {x : Nat} (h : x < 4294967296) : high1 x < 4294967296 := xor_lt32 (xor_lt32 (rotr_lt _ _ h) (rotr_lt _ _ h)) (rotr_lt _ _ h)
theorem choose_lt {e f g : Nat} (hf : f < 4294967296) (hg : g < 4294967296) : choose e f g < 4294967296 := xor_lt32 (and_lt32 hf) (and_lt32 hg)
theorem major_lt {a b c : Nat} (hb : b < 4294967296) (hc : c < 4294967296) : major a b c < 4294967296 := xor_lt32 (xor_lt32 (and_lt32 hb) (and_lt32 hc)) (and_lt32 hc)
theorem turnX_lt (s : Eight) (k w : Nat) : turnX s k w < 4294967296 := Nat.mod_lt _ (by decide)
theorem turnY_lt (s : Eight) : turnY s < 4294967296 := Nat.mod_lt _ (by decide)
theorem turn_ok {s : Eight} (h : s.ok) (k w : Nat) : (turn s k w).ok := by
  obtain ⟨h1, h2, h3, h4, h5, h6, h7, h8⟩ := h
  exact ⟨Nat.mod_lt _ (by decide), h1, h2, h3, Nat.mod_lt _ (by decide), h5, h6, h7⟩
theorem turns_ok {s : Eight} (h : s.ok) (w : List Nat) (k : Nat) : (turns s w k).ok := by
  induction k with
  | zero => exact h
  | succ k ih => exact turn_ok ih _ _
def Words (L : List Nat) : Prop := ∀ i, L.getD i 0 < 4294967296
theorem Words.eight {L : List Nat} (h : Words L) : (Eight.of L).ok := ⟨h 0, h 1, h 2, h 3, h 4, h 5, h 6, h 7⟩
theorem Words.nil : Words [] := fun i => by simp
theorem Words.app {L M : List Nat} (h : Words L) (k : Words M) : Words (L ++ M) := fun i => by
  by_cases hi : i < L.length
  · have := h i
    simp only [List.getD, List.getElem?_append_left hi] at this ⊢; exact this
  · have := k (i - L.length)
    simp only [List.getD, List.getElem?_append_right (by omega : L.length ≤ i)] at this ⊢; exact this
theorem Words.one {x : Nat} (h : x < 4294967296) : Words [x] := fun i => by
  cases i with
  | zero => exact h
  | succ i => simp
theorem Words.of_mem {L : List Nat} (h : ∀ x ∈ L, x < 4294967296) : Words L := fun i => by
  by_cases hi : i < L.length
  · simp only [List.getD, hi, List.getElem?_eq_getElem, Option.getD_some]; exact h _ (List.getElem_mem hi)
  · simp [List.getD, hi]
theorem Eight.list_words {s : Eight} (h : s.ok) : Words s.list := Words.of_mem fun x hx => by
  obtain ⟨h1, h2, h3, h4, h5, h6, h7, h8⟩ := h
  simp only [Eight.list, List.mem_cons, List.not_mem_nil, or_false] at hx
  rcases hx with rfl | rfl | rfl | rfl | rfl | rfl | rfl | rfl <;> assumption
theorem plus_words (a b : List Nat) : Words (plus a b) := Words.of_mem fun x hx => by
  simp only [plus, List.mem_map, List.mem_range] at hx
  obtain ⟨i, _, rfl⟩ := hx
  exact Nat.mod_lt _ (by decide)
theorem plus_get (a b : List Nat) (i : Nat) (h : i < 8) : (plus a b).getD i 0 = (a.getD i 0 + b.getD i 0) % 4294967296 := by simp [plus, List.getD, h]
theorem plus_length (a b : List Nat) : (plus a b).length = 8 := by simp [plus]
theorem initial_words : Words initial := Words.of_mem (by decide)
theorem adds_words (xs : List Int) (n : Nat) : Words (adds xs n) := by
  cases n with
  | zero => exact (Words.of_mem (by decide) : Words [0, 0, 0, 0, 0, 0, 0, 0])
  | succ n => exact plus_words _ _
theorem adds_length (xs : List Int) (n : Nat) : (adds xs n).length = 8 := by
  cases n with
  | zero => rfl
  | succ n => exact plus_length _ _
def Bytes (b : List Int) : Prop := ∀ x ∈ b, 0 ≤ x ∧ x < 256
theorem Bytes.get {b : List Int} (h : Bytes b) (i : Nat) : 0 ≤ b.getD i 0 ∧ b.getD i 0 < 256 := by
  by_cases hi : i < b.length
  · simp only [List.getD, hi, List.getElem?_eq_getElem, Option.getD_some]; exact h _ (List.getElem_mem hi)
  · simp [List.getD, hi]
theorem wordAt_lt {b : List Int} (h : Bytes b) (q : Nat) : wordAt b q < 4294967296 := by
  have h0 := h.get (4 * q); have h1 := h.get (4 * q + 1); have h2 := h.get (4 * q + 2); have h3 := h.get (4 * q + 3)
  unfold wordAt; omega
theorem sched_length (b : List Int) (n : Nat) : (sched b n).length = 16 + n := by
  induction n with
  | zero => simp [sched]
  | succ n ih => simp [sched, ih]; omega
theorem sched_words {b : List Int} (h : Bytes b) (n : Nat) : Words (sched b n) := by
  induction n with
  | zero =>
    refine Words.of_mem fun x hx => ?_
    simp only [sched, List.mem_map, List.mem_range] at hx
    obtain ⟨i, _, rfl⟩ := hx
    exact wordAt_lt h i
  | succ n ih => exact ih.app (Words.one (Nat.mod_lt _ (by decide)))
theorem sched_more (b : List Int) (n m i : Nat) (h : i < 16 + n) : (sched b (n + m)).getD i 0 = (sched b n).getD i 0 := by
  induction m with
  | zero => rfl
  | succ m ih =>
    rw [← ih]
    show (sched b (n + m) ++ _).getD i 0 = _
    rw [List.getD, List.getElem?_append_left (by rw [sched_length]; omega)]; rfl
theorem words_length (b : List Int) : (words b).length = 64 := sched_length b 48
theorem words_words {b : List Int} (h : Bytes b) : Words (words b) := sched_words h 48
theorem words_first (b : List Int) (i : Nat) (h : i < 16) : (words b).getD i 0 = wordAt b i := by
  have e := sched_more b 0 48 i (by omega)
  rw [Nat.zero_add] at e
  rw [words, e]; simp [sched, List.getD, h]
theorem sched_succ (b : List Int) (n : Nat) : sched b (n + 1) = sched b n ++ [(low1 ((sched b n).getD (14 + n) 0) + (sched b n).getD (9 + n) 0 + low0 ((sched b n).getD (1 + n) 0) + (sched b n).getD n 0) % 4294967296] := rfl
theorem words_at (b : List Int) (m i : Nat) (hm : m ≤ 48) (hi : i < 16 + m) : (words b).getD i 0 = (sched b m).getD i 0 := by
  have := sched_more b m (48 - m) i hi
  rw [show m + (48 - m) = 48 by omega] at this
  rw [words]; exact this
theorem get_snoc (L : List Nat) (x n : Nat) (h : L.length = n) : (L ++ [x]).getD n 0 = x := by subst h; simp [List.getD]
theorem next_of (W : List Nat) (b : List Int) (H : ∀ m i, m ≤ 48 → i < 16 + m → W.getD i 0 = (sched b m).getD i 0) (t : Nat) (h1 : 16 ≤ t) (h2 : t < 64) : W.getD t 0 = (low1 (W.getD (t - 2) 0) + W.getD (t - 7) 0 + low0 (W.getD (t - 15) 0) + W.getD (t - 16) 0) % 4294967296 := by
  obtain ⟨n, rfl⟩ : ∃ n, t = 16 + n := ⟨t - 16, by omega⟩
  have e0 := H (n + 1) (16 + n) (by omega) (by omega)
  rw [sched_succ, get_snoc _ _ _ (sched_length b n)] at e0
  have e2 := H n (14 + n) (by omega) (by omega)
  have e7 := H n (9 + n) (by omega) (by omega)
  have e15 := H n (1 + n) (by omega) (by omega)
  have e16 := H n n (by omega) (by omega)
  rw [show 16 + n - 2 = 14 + n by omega, show 16 + n - 7 = 9 + n by omega, show 16 + n - 15 = 1 + n by omega, show 16 + n - 16 = n by omega, e2, e7, e15, e16]
  exact e0
theorem words_next (b : List Int) (t : Nat) (h1 : 16 ≤ t) (h2 : t < 64) : (words b).getD t 0 = (low1 ((words b).getD (t - 2) 0) + (words b).getD (t - 7) 0 + low0 ((words b).getD (t - 15) 0) + (words b).getD (t - 16) 0) % 4294967296 := next_of _ b (words_at b) t h1 h2
theorem blk_bytes {xs : List Int} (h : Bytes xs) (n : Nat) : Bytes (blk xs n) := fun x hx => by
  simp only [blk, List.mem_map, List.mem_range] at hx
  obtain ⟨i, _, rfl⟩ := hx
  exact h.get _
theorem blk_app (xs ys : List Int) (n : Nat) (h : 64 * n + 64 ≤ xs.length) : blk (xs ++ ys) n = blk xs n := by
  apply List.map_congr_left
  intro i hi
  have : i < 64 := by simpa using hi
  rw [List.getD, List.getElem?_append_left (by omega)]; rfl
theorem adds_app (xs ys : List Int) (n : Nat) (h : 64 * n ≤ xs.length) : adds (xs ++ ys) n = adds xs n := by
  induction n with
  | zero => rfl
  | succ n ih => rw [adds, adds, ih (by omega), blk_app _ _ _ (by omega)]
theorem comp_words {s : List Nat} (h : Words s) (b : List Int) : Words (comp s b) := Eight.list_words (turns_ok h.eight _ _)
theorem comp_length (s : List Nat) (b : List Int) : (comp s b).length = 8 := rfl
end Go.Proofs.YtmeamdfmcpkofaaDoor
