/- Turned bits: what is sealed and turned within a sum's width is sealed no more. -/
import Derived.Test.YtfpgddkihlpafaaCOpen16
import Derived.Test.YtfpgddkihlpafaaCOpen32
import Derived.Test.YtfpgddkihlpafaaCPiecesWalk
import Derived.Test.YtfpgddkihlpafaaCThreesWalk
set_option linter.unusedVariables false
namespace Go.Proofs.Ytfpgddkihlpafaa
open Go.RowKit Go.Shelf
def turn (at_ m j : Nat) : Bool := decide (at_ ≤ j) && m.testBit (j - at_)
/-- ys is zs, of which, from a bit on, those that m has are turned; at least one; they are all there. -/
def Diff (zs ys : List Int) (m : Nat) : Prop := ∃ at_, at_ < 8 * zs.length ∧ m ≠ 0 ∧ m < 2 ^ (8 * zs.length - at_) ∧ ∀ j, j < 8 * zs.length → bitAt ys j = (bitAt zs j ^^ turn at_ m j)
theorem zz_upto (n : Nat) : upto (fun _ => false) n = zz n := by
  induction n with
  | zero => rfl
  | succ n ih => rw [upto_succ, ih]; simp [zz, List.replicate_succ']
theorem turn_ne {P n : Nat} (hP : P.testBit n = true) (hl : P < 2 ^ (n + 1)) (at_ N m : Nat) (hat : at_ < N) (hm0 : m ≠ 0) (hm : m < 2 ^ (n + 1)) (hm2 : m < 2 ^ (N - at_)) : run P 0 (upto (turn at_ m) N) ≠ 0 := by
  obtain ⟨r, rfl⟩ : ∃ r, N = at_ + r := ⟨N - at_, by omega⟩
  rw [Nat.add_sub_cancel_left] at hm2
  have e1 : upto (turn at_ m) at_ = zz at_ := by
    rw [upto_congr (g := fun _ => false) (fun j hj => by unfold turn; rw [decide_eq_false (by omega)]; rfl), zz_upto]
  have e2 : upto (fun j => turn at_ m (at_ + j)) r = upto m.testBit r := upto_congr fun j hj => by
    unfold turn
    rw [decide_eq_true (by omega), Nat.add_sub_cancel_left, Bool.true_and]
  rw [upto_add, e1, e2, run_append, run_zz]
  have h := run_word P 0 m r
  rw [Nat.zero_xor, Nat.shiftRight_eq_div_pow, Nat.div_eq_of_lt hm2, Nat.xor_zero] at h
  rw [← h]
  exact run_zz_ne hP hl r hm hm0
theorem diff_run {P n : Nat} (hP : P.testBit n = true) (hl : P < 2 ^ (n + 1)) (zs ys : List Int) (m : Nat) (hlen : ys.length = zs.length) (h : Diff zs ys m) (hm : m < 2 ^ (n + 1)) (s : Nat) : run P s (bitsL ys) ≠ run P s (bitsL zs) := by
  intro he
  obtain ⟨at_, h1, h2, h3, h4⟩ := h
  have e : bitsL ys = upto (fun j => bitAt zs j ^^ turn at_ m j) (8 * zs.length) := by
    unfold bitsL
    rw [hlen]
    exact upto_congr h4
  have x := run_xor P (bitAt zs) (turn at_ m) (8 * zs.length) s 0
  have hz : run P s (upto (bitAt zs) (8 * zs.length)) = run P s (bitsL zs) := rfl
  rw [Nat.xor_zero, ← e, hz, he] at x
  have y := congrArg (fun t => run P s (bitsL zs) ^^^ t) x
  simp only [xx, Nat.xor_self] at y
  exact turn_ne hP hl at_ _ m h1 h2 hm h3 y.symm
theorem byte_bit (S q r : Nat) (hr : r < 8) : (S / 2 ^ (8 * q) % 256).testBit r = S.testBit (8 * q + r) := by
  rw [show 256 = 2 ^ 8 from rfl, Nat.testBit_mod_two_pow, decide_eq_true hr, Bool.true_and, Nat.testBit_div_two_pow, Nat.add_comm]
/-- The bytes of S, the lowest first. -/
def les (S n : Nat) : List Int := upto (fun q => ((S / 2 ^ (8 * q) % 256 : Nat) : Int)) n
theorem bits_les (S n : Nat) : bitsL (les S n) = upto S.testBit (8 * n) := by
  unfold bitsL
  have hl : (les S n).length = n := upto_length _ _
  rw [hl]
  refine upto_congr fun j hj => ?_
  have e : (les S n).getD (j / 8) 0 = ((S / 2 ^ (8 * (j / 8)) % 256 : Nat) : Int) := by simp [les, upto, List.getD, show j / 8 < n by omega]
  unfold bitAt
  rw [e, Int.toNat_natCast, byte_bit S _ _ (by omega)]
  congr 1
  omega
theorem seal16_les (xs : List Int) : seal16 xs = xs ++ les (sum16 65535 xs) 2 := by
  have h := sum16_lt 65535 xs (by decide)
  unfold seal16 les
  simp [upto, List.range_succ]
  omega
theorem seal16_run (xs : List Int) : run 40961 65535 (bitsL (seal16 xs)) = 0 := by
  rw [seal16_les, bitsL_append, run_append, bits_les]
  exact run_own _ _ 16 (sum16_lt 65535 xs (by decide))
theorem burst16 (xs ys : List Int) (m : Nat) (hm : m < 65536) (hlen : ys.length = (seal16 xs).length) (h : Diff (seal16 xs) ys m) (k : Nat) : seal16 (ys.take k) ≠ ys := by
  intro he
  have h1 := seal16_run (ys.take k)
  rw [he] at h1
  exact diff_run (P := 40961) (n := 15) (by decide) (by decide) _ _ m hlen h hm 65535 (h1.trans (seal16_run xs).symm)
/-- Bytes, and their sum of 32 behind them, the lowest byte first: in the order in which its bits go round. -/
def low32 (xs : List Int) : List Int := xs ++ les (sum32 0 xs) 4
theorem low32_run (xs : List Int) : run 3988292384 4294967295 (bitsL (low32 xs)) = run 3988292384 0 (upto (4294967295 : Nat).testBit 32) := by
  unfold low32
  rw [bitsL_append, run_append, bits_les]
  have hR : run 3988292384 4294967295 (bitsL xs) < 2 ^ 32 := run_lt (n := 32) (by decide) _ (by decide)
  have e : sum32 0 xs = run 3988292384 4294967295 (bitsL xs) ^^^ 4294967295 := by unfold sum32; rw [Nat.xor_zero, Nat.xor_comm]
  rw [e]
  generalize run 3988292384 4294967295 (bitsL xs) = R at *
  have e2 : upto (R ^^^ 4294967295).testBit (8 * 4) = upto (fun j => R.testBit j ^^ (4294967295 : Nat).testBit j) 32 := upto_congr fun j _ => Nat.testBit_xor ..
  have x := run_xor 3988292384 R.testBit (4294967295 : Nat).testBit 32 R 0
  rw [Nat.xor_zero, run_own _ _ 32 hR, Nat.zero_xor] at x
  rw [e2, x]
theorem burst32 (xs ys : List Int) (m : Nat) (hm : m < 4294967296) (hlen : ys.length = (low32 xs).length) (h : Diff (low32 xs) ys m) (us : List Int) : low32 us ≠ ys := by
  intro he
  have h1 := low32_run us
  rw [he] at h1
  exact diff_run (P := 3988292384) (n := 31) (by decide) (by decide) _ _ m hlen h hm 4294967295 (h1.trans (low32_run xs).symm)
/-- The four last bytes the other way round. -/
def sw (n : Nat) (f : Nat → Int) (j : Nat) : Int := if j = n then f (n + 3) else if j = n + 1 then f (n + 2) else if j = n + 2 then f (n + 1) else if j = n + 3 then f n else f j
theorem upto4 (f : Nat → Int) (n : Nat) : upto f (n + 4) = upto f n ++ [f n, f (n + 1), f (n + 2), f (n + 3)] := by
  rw [show n + 4 = n + 1 + 1 + 1 + 1 from rfl, upto_succ, upto_succ, upto_succ, upto_succ]
  simp
theorem sw_upto (f : Nat → Int) (n : Nat) : upto (sw n f) (n + 4) = upto f n ++ [f (n + 3), f (n + 2), f (n + 1), f n] := by
  rw [upto4]
  rw [upto_congr (f := sw n f) (g := f) (fun j hj => by unfold sw; rw [if_neg (by omega), if_neg (by omega), if_neg (by omega), if_neg (by omega)])]
  simp [sw]
theorem low32_bytes (xs : List Int) : low32 xs = xs ++ [((sum32 0 xs % 256 : Nat) : Int), ((sum32 0 xs / 256 % 256 : Nat) : Int), ((sum32 0 xs / 65536 % 256 : Nat) : Int), ((sum32 0 xs / 16777216 : Nat) : Int)] := by
  have h := sum32_lt 0 xs (by decide)
  unfold low32 les
  simp [upto, List.range_succ]
  omega
theorem sw_seal (f : Nat → Int) (n : Nat) (xs : List Int) (hx : xs.length = n) (h : upto f (n + 4) = seal32 xs) : upto (sw n f) (n + 4) = low32 xs := by
  rw [upto4] at h
  unfold seal32 at h
  obtain ⟨h1, h2⟩ := List.append_inj h (by rw [upto_length, hx])
  simp only [List.cons.injEq, and_true] at h2
  obtain ⟨a, b, c, d⟩ := h2
  rw [sw_upto, low32_bytes, h1, a, b, c, d]
theorem sw_sw (f : Nat → Int) (n : Nat) (j : Nat) : sw n (sw n f) j = f j := by
  unfold sw
  by_cases h0 : j = n
  · subst h0; simp
  · by_cases h1 : j = n + 1
    · subst h1; simp
    · by_cases h2 : j = n + 2
      · subst h2; simp
      · by_cases h3 : j = n + 3
        · subst h3; simp
        · simp [h0, h1, h2, h3]
theorem seal32_no (f : Nat → Int) (n : Nat) (xs : List Int) (m : Nat) (hx : xs.length = n) (hm : m < 4294967296) (h : Diff (low32 xs) (upto f (n + 4)) m) : seal32 ((upto (sw n f) (n + 4)).take n) ≠ upto (sw n f) (n + 4) := by
  intro he
  have ht : ((upto (sw n f) (n + 4)).take n).length = n := by rw [List.length_take, upto_length]; omega
  have h1 := sw_seal (sw n f) n _ ht he.symm
  rw [upto_congr (fun j _ => sw_sw f n j)] at h1
  exact burst32 xs _ m hm (by rw [upto_length]; simp [low32, les, upto, hx]) h _ h1.symm
end Go.Proofs.Ytfpgddkihlpafaa
