/- Entries as plain mathematics: fields, bytes, what is valid. -/
import Derived.Lib.ItoaMem
set_option linter.unusedVariables false
set_option linter.unusedSimpArgs false
namespace Go.Proofs.YtmeamdfmcpkofaaDoor
/-- An entry, its numbers as Go holds them. -/
structure En where
  (kind meter start energy band price cost flags count seq : Int)
  hash : List Int
def R64 (n : Int) : Prop := -9223372036854775808 ≤ n ∧ n ≤ 9223372036854775807
def Oct (b : List Int) : Prop := ∀ x ∈ b, 0 ≤ x ∧ x < 256
structure En.ok (x : En) : Prop where
  kind : R64 x.kind
  meter : R64 x.meter
  start : R64 x.start
  energy : R64 x.energy
  band : R64 x.band
  price : R64 x.price
  cost : R64 x.cost
  flags : R64 x.flags
  count : 0 ≤ x.count ∧ x.count < 4294967296
  seq : 0 ≤ x.seq ∧ x.seq < 18446744073709551616
  bytes : Oct x.hash
  len : x.hash.length = 32
def zeros : List Int := List.replicate 32 0
def u64 (n : Int) : Int := n % 18446744073709551616
def s64 (n : Int) : Int := if n < 9223372036854775808 then n else n - 18446744073709551616
theorem u64_s64 {n : Int} (h : 0 ≤ n ∧ n < 18446744073709551616) : u64 (s64 n) = n := by unfold u64 s64; split <;> omega
theorem s64_u64 {n : Int} (h : R64 n) : s64 (u64 n) = n := by unfold R64 at h; unfold u64 s64; split <;> omega
theorem u64_bd (n : Int) : 0 ≤ u64 n ∧ u64 n < 18446744073709551616 := by unfold u64; omega
theorem u64_inj {m n : Int} (hm : R64 m) (hn : R64 n) (h : u64 m = u64 n) : m = n := by rw [← s64_u64 hm, h, s64_u64 hn]
/-- The numbers of an entry by their fields, in two's complement. -/
def num (x : En) : Nat → Int
  | 0 => u64 x.meter
  | 1 => u64 x.start
  | 2 => u64 x.energy
  | 3 => u64 x.band
  | 4 => u64 x.price
  | 5 => u64 x.cost
  | 6 => u64 x.flags
  | 7 => x.count
  | 8 => x.seq
  | _ => 0
theorem num_bd {x : En} (h : x.ok) (f : Nat) : 0 ≤ num x f ∧ num x f < 18446744073709551616 := by
  have h7 := h.count
  have h8 := h.seq
  unfold num
  split <;> first | exact u64_bd _ | (constructor <;> omega)
/-- The numbers' fields of a kind, in order. -/
def numsL : Nat → List Nat
  | 1 => [0, 1, 2, 3, 4, 5, 6]
  | 2 => [0, 1, 7]
  | 3 => [0, 1, 7, 8]
  | 4 => [0, 3, 2, 5, 8]
  | 5 => [8]
  | _ => []
/-- The fields of a kind, in order. -/
def layN : Nat → List Nat
  | 1 => [0, 1, 2, 3, 4, 5, 6]
  | 2 => [0, 1, 7]
  | 3 => [0, 1, 7, 8, 9]
  | 4 => [0, 3, 2, 5, 8, 9]
  | 5 => [8, 9]
  | _ => []
theorem lay_nums (k : Nat) (hk : 1 ≤ k ∧ k ≤ 5) : layN k = numsL k ++ if 3 ≤ k then [9] else [] := by
  have : k = 1 ∨ k = 2 ∨ k = 3 ∨ k = 4 ∨ k = 5 := by omega
  rcases this with rfl | rfl | rfl | rfl | rfl <;> rfl
def sizeN : Nat → Nat
  | 0 => 1
  | 1 => 8
  | 2 => 8
  | 3 => 1
  | 4 => 8
  | 5 => 8
  | 6 => 1
  | 7 => 4
  | 8 => 8
  | 9 => 32
  | _ => 0
def mostN : Nat → Int
  | 0 => 63
  | 1 => 253402300799
  | 2 => 4611686018427387904
  | 3 => 7
  | 4 => 1073741824
  | 5 => 4611686018427387904
  | 6 => 15
  | 7 => 4294967295
  | 8 => 18446744073709551615
  | _ => 0
def signB (k f : Nat) : Bool := k == 4 && (f == 2 || f == 5)
/-- May a field of a kind have a number? -/
def holdsB (k f : Nat) (n : Int) : Bool := if signB k f then decide (-(mostN f) ≤ s64 n) && decide (s64 n ≤ mostN f) else decide (n ≤ mostN f)
/-- The entry x is valid, of kind k. -/
structure May (k : Nat) (x : En) : Prop where
  is : 1 ≤ k ∧ k ≤ 5
  kind : x.kind = (k : Int)
  holds : ∀ f ∈ numsL k, holdsB k f (num x f) = true
  rest : ∀ f, f < 9 → f ∉ numsL k → num x f = 0
  hash : k < 3 → x.hash = zeros
theorem nums_lt {k f : Nat} (h : f ∈ numsL k) : f < 9 := by
  unfold numsL at h
  split at h <;> simp at h <;> omega
theorem En.eq_of {x y : En} (hx : x.ok) (hy : y.ok) (hk : x.kind = y.kind) (hn : ∀ f, f < 9 → num x f = num y f) (hh : x.hash = y.hash) : x = y := by
  have h0 := u64_inj hx.meter hy.meter (hn 0 (by omega))
  have h1 := u64_inj hx.start hy.start (hn 1 (by omega))
  have h2 := u64_inj hx.energy hy.energy (hn 2 (by omega))
  have h3 := u64_inj hx.band hy.band (hn 3 (by omega))
  have h4 := u64_inj hx.price hy.price (hn 4 (by omega))
  have h5 := u64_inj hx.cost hy.cost (hn 5 (by omega))
  have h6 := u64_inj hx.flags hy.flags (hn 6 (by omega))
  have h7 : x.count = y.count := hn 7 (by omega)
  have h8 : x.seq = y.seq := hn 8 (by omega)
  cases x; cases y
  simp_all
theorem May.eq {k : Nat} {x y : En} (hx : x.ok) (hy : y.ok) (mx : May k x) (my : May k y) (hn : ∀ f ∈ numsL k, num x f = num y f) (hh : x.hash = y.hash) : x = y :=
  En.eq_of hx hy (mx.kind.trans my.kind.symm) (fun f hf => by
    by_cases h : f ∈ numsL k
    · exact hn f h
    · rw [mx.rest f hf h, my.rest f hf h]) hh
theorem holds_lt {k f : Nat} {n : Int} (hf : f < 9) (h0 : 0 ≤ n ∧ n < 18446744073709551616) (h : holdsB k f n = true) : n < 256 ^ sizeN f := by
  have hc : f = 0 ∨ f = 1 ∨ f = 2 ∨ f = 3 ∨ f = 4 ∨ f = 5 ∨ f = 6 ∨ f = 7 ∨ f = 8 := by omega
  unfold holdsB at h
  rcases hc with rfl | rfl | rfl | rfl | rfl | rfl | rfl | rfl | rfl <;> simp [signB, mostN, sizeN] at h ⊢ <;> omega
/-- The bytes of a number, the first of most weight. -/
def be : Nat → Int → List Int
  | 0, _ => []
  | s + 1, n => (n / 256 ^ s % 256) :: be s n
theorem be_len : ∀ (s : Nat) (n : Int), (be s n).length = s
  | 0, _ => rfl
  | s + 1, n => by simp [be, be_len s n]
theorem be_oct : ∀ (s : Nat) (n : Int), Oct (be s n)
  | 0, _ => fun x hx => by simp [be] at hx
  | s + 1, n => fun x hx => by
    simp only [be, List.mem_cons] at hx
    rcases hx with rfl | hx
    · omega
    · exact be_oct s n x hx
/-- The number of bytes behind a number. -/
def unbe (a : Int) (l : List Int) : Int := l.foldl (fun n c => n * 256 + c) a
theorem unbe_be : ∀ (s : Nat) (a n : Int), 0 ≤ n → unbe a (be s n) = a * 256 ^ s + n % 256 ^ s
  | 0, a, n, h => by simp only [be, unbe, List.foldl_nil, Int.pow_zero]; omega
  | s + 1, a, n, h => by
    have ih := unbe_be s (a * 256 + n / 256 ^ s % 256) n h
    simp only [be, unbe, List.foldl_cons] at ih ⊢
    rw [ih, Int.pow_succ]
    have hp : (0 : Int) < 256 ^ s := Int.pow_pos (by decide)
    have e1 := Int.emod_add_mul_ediv n (256 ^ s)
    have e2 := Int.emod_add_mul_ediv n (256 ^ s * 256)
    have e3 := Int.emod_add_mul_ediv (n / 256 ^ s) 256
    have e4 : n / (256 ^ s * 256) = n / 256 ^ s / 256 := (Int.ediv_ediv_of_nonneg (Int.le_of_lt hp)).symm
    rw [e4] at e2
    generalize hP : (256 : Int) ^ s = p at *
    generalize n / p = q at *
    rw [Int.add_mul, Int.mul_assoc, Int.mul_comm 256 p, ← Int.mul_assoc, Int.add_assoc]
    congr 1
    have : q = q % 256 + 256 * (q / 256) := e3.symm
    have h5 : p * q = p * (q % 256) + p * 256 * (q / 256) := by
      conv => lhs; rw [this]
      rw [Int.mul_add, Int.mul_assoc]
    rw [Int.mul_comm (q % 256) p]
    omega
theorem be_inj {s : Nat} {m n : Int} (hm : 0 ≤ m ∧ m < 256 ^ s) (hn : 0 ≤ n ∧ n < 256 ^ s) (h : be s m = be s n) : m = n := by
  have h1 := unbe_be s 0 m hm.1
  have h2 := unbe_be s 0 n hn.1
  rw [h, h2, Int.emod_eq_of_lt hm.1 hm.2, Int.emod_eq_of_lt hn.1 hn.2] at h1
  omega
theorem unbe_bd : ∀ (l : List Int) (a : Int), Oct l → 0 ≤ a → 0 ≤ unbe a l ∧ unbe a l < (a + 1) * 256 ^ l.length
  | [], a, _, h => by simp [unbe]; omega
  | c :: l, a, ho, h => by
    have hc := ho c (by simp)
    have ih := unbe_bd l (a * 256 + c) (fun x hx => ho x (by simp [hx])) (by omega)
    refine ⟨ih.1, Int.lt_of_lt_of_le ih.2 ?_⟩
    rw [List.length_cons, Int.pow_succ, Int.mul_comm (256 ^ l.length) 256, ← Int.mul_assoc]
    exact Int.mul_le_mul_of_nonneg_right (by omega) (Int.le_of_lt (Int.pow_pos (by decide)))
theorem be_add : ∀ (s : Nat) (a n : Int), be s (a * 256 ^ s + n) = be s n
  | 0, _, _ => rfl
  | s + 1, a, n => by
    have hp : (256 : Int) ^ s ≠ 0 := Int.ne_of_gt (Int.pow_pos (by decide))
    have ih := be_add s (a * 256) n
    have e : a * 256 ^ (s + 1) = a * 256 * 256 ^ s := by rw [Int.pow_succ, Int.mul_assoc, Int.mul_comm 256 (256 ^ s)]
    simp only [be]
    rw [e, ih, Int.add_comm (a * 256 * 256 ^ s) n, Int.add_mul_ediv_right _ _ hp]
    congr 1
    omega
theorem be_unbe : ∀ (l : List Int) (a : Int), Oct l → 0 ≤ a → be l.length (unbe a l) = l
  | [], a, _, _ => rfl
  | c :: l, a, ho, ha => by
    have hc := ho c (by simp)
    have ho' : Oct l := fun x hx => ho x (by simp [hx])
    have hp : (0 : Int) < 256 ^ l.length := Int.pow_pos (by decide)
    have ih := be_unbe l (a * 256 + c) ho' (by omega)
    have h0 := unbe_be l.length (a * 256 + c) (unbe 0 l) (unbe_bd l 0 ho' (by omega)).1
    have hb := unbe_bd l 0 ho' (by omega)
    have e0 := be_unbe l 0 ho' (by omega)
    rw [e0] at h0
    have hlt : unbe 0 l < 256 ^ l.length := by have := hb.2; omega
    rw [Int.emod_eq_of_lt hb.1 hlt] at h0
    have e : unbe a (c :: l) = unbe (a * 256 + c) l := rfl
    simp only [List.length_cons, be]
    rw [e, ih, h0]
    congr 1
    rw [Int.add_comm, Int.add_mul_ediv_right _ _ (Int.ne_of_gt hp), Int.ediv_eq_zero_of_lt hb.1 hlt]
    omega
termination_by l => l.length
/-- The bytes of numbers. -/
def bytesOf (g : Nat → Int) (fs : List Nat) : List Int := fs.flatMap fun f => be (sizeN f) (g f)
theorem bytesOf_oct (g : Nat → Int) (fs : List Nat) : Oct (bytesOf g fs) := fun x hx => by
  simp only [bytesOf, List.mem_flatMap] at hx
  obtain ⟨f, _, h⟩ := hx
  exact be_oct _ _ x h
def sizesOf : List Nat → Nat
  | [] => 0
  | f :: fs => sizeN f + sizesOf fs
theorem bytesOf_len (g : Nat → Int) : ∀ fs, (bytesOf g fs).length = sizesOf fs
  | [] => rfl
  | f :: fs => by
    have := bytesOf_len g fs
    simp only [bytesOf, List.flatMap_cons, List.length_append, be_len, sizesOf] at this ⊢
    omega
theorem bytesOf_inj {g h : Nat → Int} : ∀ {fs : List Nat}, (∀ f ∈ fs, (0 ≤ g f ∧ g f < 256 ^ sizeN f) ∧ 0 ≤ h f ∧ h f < 256 ^ sizeN f) → bytesOf g fs = bytesOf h fs → ∀ f ∈ fs, g f = h f
  | [], _, _ => fun f hf => by simp at hf
  | a :: fs, hb, e => fun f hf => by
    simp only [bytesOf, List.flatMap_cons] at e
    obtain ⟨e1, e2⟩ := List.append_inj e (by rw [be_len, be_len])
    rcases List.mem_cons.1 hf with rfl | hf
    · exact be_inj (hb f (by simp)).1 (hb f (by simp)).2 e1
    · exact bytesOf_inj (fun c hc => hb c (by simp [hc])) e2 f hf
/-- The plain bytes, and the bytes, of an entry of kind k. -/
def plainL (k : Nat) (x : En) : List Int := (k : Int) :: bytesOf (num x) (numsL k)
def bytesL (k : Nat) (x : En) : List Int := plainL k x ++ if 3 ≤ k then x.hash else []
def lenN (k : Nat) : Nat := 1 + sizesOf (numsL k) + if 3 ≤ k then 32 else 0
theorem bytesL_len {k : Nat} {x : En} (hx : x.ok) : (bytesL k x).length = lenN k := by
  unfold bytesL plainL lenN
  simp only [List.length_append, List.length_cons, bytesOf_len]
  split
  · rw [hx.len]; omega
  · simp; omega
theorem May.fits {k : Nat} {x : En} (hx : x.ok) (m : May k x) : ∀ f ∈ numsL k, 0 ≤ num x f ∧ num x f < 256 ^ sizeN f := fun f hf =>
  ⟨(num_bd hx f).1, holds_lt (nums_lt hf) (num_bd hx f) (m.holds f hf)⟩
theorem bytesL_inj {j k : Nat} {x y : En} (hx : x.ok) (hy : y.ok) (mx : May j x) (my : May k y) (h : bytesL j x = bytesL k y) : x = y := by
  have hk : (j : Int) = k := by
    unfold bytesL plainL at h
    simp only [List.cons_append, List.cons.injEq] at h
    exact h.1
  obtain rfl : j = k := by omega
  unfold bytesL plainL at h
  obtain ⟨e1, e2⟩ := List.append_inj h (by simp [bytesOf_len])
  simp only [List.cons.injEq, true_and] at e1
  refine mx.eq hx hy my (bytesOf_inj (fun f hf => ⟨mx.fits hx f hf, my.fits hy f hf⟩) e1) ?_
  by_cases h3 : 3 ≤ j
  · simpa [h3] using e2
  · rw [mx.hash (by omega), my.hash (by omega)]
/-- No entry's bytes are a beginning of another one's. -/
theorem bytesL_apart {j k n : Nat} {x y : En} (hx : x.ok) (hy : y.ok) (mx : May j x) (my : May k y) (hn : n = min (bytesL j x).length (bytesL k y).length) (h : (bytesL j x).take n = (bytesL k y).take n) : x = y := by
  have l1 := bytesL_len (k := j) hx
  have l2 := bytesL_len (k := k) hy
  have hk : (j : Int) = k := by
    have h0 : 0 < n := by rw [hn, l1, l2]; unfold lenN; omega
    obtain ⟨m, rfl⟩ : ∃ m, n = m + 1 := ⟨n - 1, by omega⟩
    unfold bytesL plainL at h
    simp only [List.cons_append, List.take_succ_cons, List.cons.injEq] at h
    exact h.1
  obtain rfl : j = k := by omega
  rw [hn, l1, l2, Nat.min_self, List.take_of_length_le (by omega), List.take_of_length_le (by omega)] at h
  exact bytesL_inj hx hy mx my h
theorem plain_same {k : Nat} {x y : En} (h : ∀ f ∈ numsL k, num x f = num y f) : plainL k x = plainL k y := by
  unfold plainL bytesOf
  congr 1
  simp only [List.flatMap]
  congr 1
  exact List.map_congr_left fun f hf => by rw [h f hf]
theorem zeros_len : zeros.length = 32 := by simp [zeros]
theorem zeros_oct : Oct zeros := fun x hx => by simp [zeros] at hx; omega
/-- The entry of a kind with numbers and a hash. -/
def enOf (k : Nat) (g : Nat → Int) (h : List Int) : En := ⟨k, s64 (g 0), s64 (g 1), s64 (g 2), s64 (g 3), s64 (g 4), s64 (g 5), s64 (g 6), g 7 % 4294967296, g 8, h⟩
theorem s64_r {n : Int} (h : 0 ≤ n ∧ n < 18446744073709551616) : R64 (s64 n) := by unfold R64 s64; split <;> omega
theorem enOf_ok {k : Nat} (hk : k ≤ 255) {g : Nat → Int} (hg : ∀ f, 0 ≤ g f ∧ g f < 18446744073709551616) {h : List Int} (ho : Oct h) (hl : h.length = 32) : (enOf k g h).ok :=
  ⟨by unfold R64 enOf; simp; omega, s64_r (hg 0), s64_r (hg 1), s64_r (hg 2), s64_r (hg 3), s64_r (hg 4), s64_r (hg 5), s64_r (hg 6), by unfold enOf; simp; omega, hg 8, ho, hl⟩
theorem num_enOf {k : Nat} {g : Nat → Int} {h : List Int} (hg : ∀ f, 0 ≤ g f ∧ g f < 18446744073709551616) (h7 : g 7 < 4294967296) (f : Nat) (hf : f < 9) : num (enOf k g h) f = g f := by
  have hc : f = 0 ∨ f = 1 ∨ f = 2 ∨ f = 3 ∨ f = 4 ∨ f = 5 ∨ f = 6 ∨ f = 7 ∨ f = 8 := by omega
  have h8 := hg 7
  rcases hc with rfl | rfl | rfl | rfl | rfl | rfl | rfl | rfl | rfl <;> simp only [num, enOf] <;> first | exact u64_s64 (hg _) | rfl | omega
/-- An entry is the one of its own numbers. -/
theorem enOf_num {k : Nat} {x : En} (hx : x.ok) (hk : x.kind = (k : Int)) {g : Nat → Int} (hg : ∀ f, f < 9 → g f = num x f) : enOf k g x.hash = x := by
  have h7 := hx.count
  have e0 : s64 (g 0) = x.meter := by rw [hg 0 (by omega)]; exact s64_u64 hx.meter
  have e1 : s64 (g 1) = x.start := by rw [hg 1 (by omega)]; exact s64_u64 hx.start
  have e2 : s64 (g 2) = x.energy := by rw [hg 2 (by omega)]; exact s64_u64 hx.energy
  have e3 : s64 (g 3) = x.band := by rw [hg 3 (by omega)]; exact s64_u64 hx.band
  have e4 : s64 (g 4) = x.price := by rw [hg 4 (by omega)]; exact s64_u64 hx.price
  have e5 : s64 (g 5) = x.cost := by rw [hg 5 (by omega)]; exact s64_u64 hx.cost
  have e6 : s64 (g 6) = x.flags := by rw [hg 6 (by omega)]; exact s64_u64 hx.flags
  have e7 : g 7 % 4294967296 = x.count := by rw [hg 7 (by omega)]; exact Int.emod_eq_of_lt h7.1 h7.2
  have e8 : g 8 = x.seq := hg 8 (by omega)
  unfold enOf
  rw [e0, e1, e2, e3, e4, e5, e6, e7, e8, ← hk]
end Go.Proofs.YtmeamdfmcpkofaaDoor
