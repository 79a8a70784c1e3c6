/- A frame of which one byte behind its length is another one. -/
import Derived.Test.YtmhgphbafiilnaaFMath
set_option linter.unusedVariables false
set_option linter.unusedSimpArgs false
namespace Go.Proofs.Ytmhgphbafiilnaa
def turn (at_ m j : Nat) : Bool := decide (at_ ≤ j) && m.testBit (j - at_)
/-- ys is zs, of which, from a bit on, those that m has are turned; at least one; they are all there. -/
def Diff (zs ys : List Int) (m : Nat) : Prop := ∃ at_, at_ < 8 * zs.length ∧ m ≠ 0 ∧ m < 2 ^ (8 * zs.length - at_) ∧ ∀ j, j < 8 * zs.length → bitAt ys j = (bitAt zs j ^^ turn at_ m j)
theorem zz_upto (n : Nat) : upto (fun _ => false) n = zz n := by
  induction n with
  | zero => rfl
  | succ n ih => rw [upto_succ, ih]; simp [zz, List.replicate_succ']
theorem turn_ne {P n : Nat} (hP : P.testBit n = true) (hl : P < 2 ^ (n + 1)) (at_ N m : Nat) (hat : at_ < N) (hm0 : m ≠ 0) (hm : m < 2 ^ (n + 1)) (hm2 : m < 2 ^ (N - at_)) : run P 0 (upto (turn at_ m) N) ≠ 0 := by
  obtain ⟨r, rfl⟩ : ∃ r, N = at_ + r := ⟨N - at_, by omega⟩
  rw [Nat.add_sub_cancel_left] at hm2
  have e1 : upto (turn at_ m) at_ = zz at_ := by
    rw [upto_congr (g := fun _ => false) (fun j hj => by unfold turn; rw [decide_eq_false (by omega)]; rfl), zz_upto]
  have e2 : upto (fun j => turn at_ m (at_ + j)) r = upto m.testBit r := upto_congr fun j hj => by
    unfold turn
    rw [decide_eq_true (by omega), Nat.add_sub_cancel_left, Bool.true_and]
  rw [upto_add, e1, e2, run_append, run_zz]
  have h := run_word P 0 m r
  rw [Nat.zero_xor, Nat.shiftRight_eq_div_pow, Nat.div_eq_of_lt hm2, Nat.xor_zero] at h
  rw [← h]
  exact run_zz_ne hP hl r hm hm0
theorem diff_run {P n : Nat} (hP : P.testBit n = true) (hl : P < 2 ^ (n + 1)) (zs ys : List Int) (m : Nat) (hlen : ys.length = zs.length) (h : Diff zs ys m) (hm : m < 2 ^ (n + 1)) (s : Nat) : run P s (bitsL ys) ≠ run P s (bitsL zs) := by
  intro he
  obtain ⟨at_, h1, h2, h3, h4⟩ := h
  have e : bitsL ys = upto (fun j => bitAt zs j ^^ turn at_ m j) (8 * zs.length) := by
    unfold bitsL
    rw [hlen]
    exact upto_congr h4
  have x := run_xor P (bitAt zs) (turn at_ m) (8 * zs.length) s 0
  have hz : run P s (upto (bitAt zs) (8 * zs.length)) = run P s (bitsL zs) := rfl
  rw [Nat.xor_zero, ← e, hz, he] at x
  have y := congrArg (fun t => run P s (bitsL zs) ^^^ t) x
  simp only [xx, Nat.xor_self] at y
  exact turn_ne hP hl at_ _ m h1 h2 hm h3 y.symm
theorem bit_set (xs : List Int) (k d : Nat) (hk : k < xs.length) (hd : d < 256) (j : Nat) :
    bitAt (xs.set k (((xs.getD k 0).toNat ^^^ d : Nat) : Int)) j = (bitAt xs j ^^ turn (8 * k) d j) := by
  unfold bitAt turn
  by_cases h : j / 8 = k
  · rw [h, show (xs.set k (((xs.getD k 0).toNat ^^^ d : Nat) : Int)).getD k 0 = (((xs.getD k 0).toNat ^^^ d : Nat) : Int) by simp [List.getD, hk], Int.toNat_natCast, Nat.testBit_xor, decide_eq_true (by omega), Bool.true_and, show j - 8 * k = j % 8 by omega]
  · rw [show (xs.set k (((xs.getD k 0).toNat ^^^ d : Nat) : Int)).getD (j / 8) 0 = xs.getD (j / 8) 0 by simp only [List.getD]; rw [List.getElem?_set_ne (Ne.symm h)]]
    by_cases h2 : 8 * k ≤ j
    · have h3 : d.testBit (j - 8 * k) = false := Nat.testBit_lt_two_pow (Nat.lt_of_lt_of_le hd (Nat.pow_le_pow_right (n := 2) (by decide) (show 8 ≤ j - 8 * k by omega)))
      rw [h3]; simp
    · rw [decide_eq_false h2]; simp
/-- A sum finds each change of one byte. -/
theorem sum_set (xs : List Int) (k d : Nat) (hk : k < xs.length) (h0 : d ≠ 0) (hd : d < 256) : sum32 0 (xs.set k (((xs.getD k 0).toNat ^^^ d : Nat) : Int)) ≠ sum32 0 xs := by
  intro he
  unfold sum32 at he
  have h1 := congrArg (fun t => 4294967295 ^^^ t) he
  simp only [xx] at h1
  refine diff_run (P := 3988292384) (n := 31) (by decide) (by decide) xs _ d (by simp) ⟨8 * k, by omega, h0, ?_, fun j _ => bit_set xs k d hk hd j⟩ (by omega) _ h1
  exact Nat.lt_of_lt_of_le hd (Nat.pow_le_pow_right (n := 2) (by decide) (show 8 ≤ 8 * xs.length - 8 * k by omega))
/-- The frame with byte n turned. -/
def spoil (xs : List Int) (n d : Nat) : List Int := xs.set n (((xs.getD n 0).toNat ^^^ d : Nat) : Int)
theorem spoil_len (xs : List Int) (n d : Nat) : (spoil xs n d).length = xs.length := by simp [spoil]
theorem xor_ne {x d : Nat} (h : d ≠ 0) : x ^^^ d ≠ x := fun e => h (by have := congrArg (fun t => x ^^^ t) e; simpa [xx] using this)
theorem spoil_byt {xs : List Int} (h : Byt xs) {n d : Nat} (hd : d < 256) : Byt (spoil xs n d) := by
  intro x hx
  rcases List.mem_or_eq_of_mem_set hx with q | q
  · exact h x q
  · rw [q]
    have hb : (xs.getD n 0).toNat < 256 := by
      by_cases hn : n < xs.length
      · have := h (xs.getD n 0) (by simp [List.getD, hn]); omega
      · simp [List.getD, hn]
    have := Nat.xor_lt_two_pow (n := 8) hb hd
    omega
theorem spoil_why {L : List Int} (hL : RecL L) (hb : Byt L) {n d : Nat} (h2 : 2 ≤ n) (hn : n < 6 + L.length) (h0 : d ≠ 0) (hd : d < 256) (z : List Int) : whyOf (spoil (frameL L) n d ++ z) = 3 := by
  have hfl := frameL_len L
  obtain ⟨p1, p2, p3, p4, p5⟩ := frame_parts L []
  rw [List.append_nil] at p1 p2 p3 p4
  obtain ⟨x0, x1, x2, x3, x4, x5, hF⟩ : ∃ x0 x1 x2 x3 x4 x5, frameL L = x0 :: x1 :: x2 :: x3 :: x4 :: x5 :: L := ⟨_, _, _, _, _, _, rfl⟩
  have hbF := frameL_byt hb hL.2
  have hby : ∀ x ∈ [x0, x1, x2, x3, x4, x5], 0 ≤ x ∧ x < 256 := fun x hx => hbF x (by rw [hF]; simp at hx ⊢; rcases hx with h | h | h | h | h | h <;> simp [h])
  simp at hby
  obtain ⟨g0, g1, g2, g3, g4, g5⟩ := hby
  have hlen : (spoil (frameL L) n d ++ z).length = 6 + L.length + z.length := by rw [List.length_append, spoil_len, hfl]
  have hrl : RecL L := hL
  unfold RecL at hrl
  have hn2 : num2 (spoil (frameL L) n d ++ z) = L.length := by
    rw [← p1]
    unfold num2 spoil
    obtain ⟨k, rfl⟩ : ∃ k, n = k + 2 := ⟨n - 2, by omega⟩
    rw [hF]
    simp
  unfold whyOf
  rw [hlen, hn2, if_neg (by omega), if_neg (by omega), if_neg (by omega), if_pos]
  have ht : (spoil (frameL L) n d ++ z).take 2 = len2 L.length := by
    rw [← p4]
    unfold spoil
    obtain ⟨k, rfl⟩ : ∃ k, n = k + 2 := ⟨n - 2, by omega⟩
    rw [hF]
    simp
  rw [ht, ← sum32_app]
  by_cases h6 : n < 6
  · have hr : recOf (spoil (frameL L) n d ++ z) = L := by
      unfold recOf
      rw [hn2]
      unfold spoil
      rw [hF]
      have : n = 2 ∨ n = 3 ∨ n = 4 ∨ n = 5 := by omega
      rcases this with rfl | rfl | rfl | rfl <;> simp
    rw [hr]
    intro he
    have hc : sum32 0 (len2 L.length ++ L) = num4 (frameL L) := by rw [p2]; rfl
    rw [hc] at he
    have q2 := xor_ne (x := x2.toNat) h0
    have q3 := xor_ne (x := x3.toNat) h0
    have q4 := xor_ne (x := x4.toNat) h0
    have q5 := xor_ne (x := x5.toNat) h0
    have r2 := Nat.xor_lt_two_pow (n := 8) (x := x2.toNat) (y := d) (by omega) hd
    have r3 := Nat.xor_lt_two_pow (n := 8) (x := x3.toNat) (y := d) (by omega) hd
    have r4 := Nat.xor_lt_two_pow (n := 8) (x := x4.toNat) (y := d) (by omega) hd
    have r5 := Nat.xor_lt_two_pow (n := 8) (x := x5.toNat) (y := d) (by omega) hd
    unfold num4 spoil at he
    rw [hF] at he
    have : n = 2 ∨ n = 3 ∨ n = 4 ∨ n = 5 := by omega
    rcases this with rfl | rfl | rfl | rfl <;> simp at he <;> omega
  · obtain ⟨k, rfl⟩ : ∃ k, n = k + 6 := ⟨n - 6, by omega⟩
    have hk : k < L.length := by omega
    have hr : recOf (spoil (frameL L) (k + 6) d ++ z) = L.set k (((L.getD k 0).toNat ^^^ d : Nat) : Int) := by
      unfold recOf
      rw [hn2]
      unfold spoil
      rw [hF]
      simp [hk]
    have h4 : num4 (spoil (frameL L) (k + 6) d ++ z) = crcOf L := by
      rw [← p2]
      unfold num4 spoil
      rw [hF]
      simp
    rw [hr, h4]
    have := sum_set (len2 L.length ++ L) (k + 2) d (by simp [len2]; omega) h0 hd
    unfold crcOf
    have e : (len2 L.length ++ L).set (k + 2) ((((len2 L.length ++ L).getD (k + 2) 0).toNat ^^^ d : Nat) : Int) = len2 L.length ++ L.set k (((L.getD k 0).toNat ^^^ d : Nat) : Int) := by simp [len2]
    rw [e] at this
    exact this
end Go.Proofs.Ytmhgphbafiilnaa
