/- sumIn, first, Read. -/
import Derived.Test.YtpcbolmidnoaiaaFAll
set_option linter.unusedVariables false
set_option linter.unusedSimpArgs false
namespace Go.Proofs.Ytpcbolmidnoaiaa
open Go.RowKit Go.Shelf
theorem elem8 : Try.prog.elem 23 = 5 := by kernel_rfl
theorem size8 (W : World) : (sizeOf 5).run Try.prog W = .ok 1 W := by
  obtain ⟨i, hi, _, hs, _⟩ := parts8
  simp [sizeOf, typeInfo, hi, hs]
/-- The number that the first k of four bytes say. -/
def part4 (b : List Int) : Nat → Nat
  | 0 => 0
  | k + 1 => part4 b k * 256 + (b.getD (2 + k) 0).toNat
theorem part4_num (b : List Int) : part4 b 4 = num4 b := by simp [part4, num4]
theorem or_u32 (s c : Nat) (hs : s < 16777216) (hc : c < 256) : bits .or .u32 ((s : Int) * 256) (c : Int) = ((s * 256 + c : Nat) : Int) := by
  rw [bits_join .u32 32 (by decide) (fun n a b => by rw [IntKind.wrap_u32]; omega) 8 _ _ (by omega) (by omega) (by omega) (by omega) (by omega) (by omega)]
  omega
theorem or_i64 (s c : Nat) (hs : s < 256) (hc : c < 256) : bits .or .i64 ((s : Int) * 256) (c : Int) = ((s * 256 + c : Nat) : Int) := by
  rw [bits_join .i64 62 (by decide) (fun n a b => by simp [IntKind.wrap, IntKind.bits, IntKind.signed]; omega) 8 _ _ (by omega) (by omega) (by omega) (by omega) (by omega) (by omega)]
  omega
theorem Bys8.byte {B : Nat} {w : World} {b off len cap : Nat} {xs : List Int} (h : Bys8 B w (.slice (some ⟨b, off, none⟩) len cap) xs) (j : Nat) (hj : j < xs.length) : ∃ c : Nat, c < 256 ∧ (xs.getD j 0).toNat = c ∧ w.cell? ⟨b, off + j, none⟩ = some (.int .u8 (c : Int)) := by
  obtain ⟨h0, h1⟩ := h.bd j
  refine ⟨(xs.getD j 0).toNat, by omega, rfl, ?_⟩
  rw [Int.toNat_of_nonneg h0]
  obtain ⟨hr, ⟨rfl, _⟩ | ⟨b', off', cap', e, hb, hc⟩⟩ := h
  · simp at hj
  · cases e; exact hc j hj
theorem Bys8.ptr {B : Nat} {w : World} {a : Option Addr} {len cap : Nat} {xs : List Int} (h : Bys8 B w (.slice a len cap) xs) (h0 : 0 < len) : ∃ b off, a = some ⟨b, off, none⟩ ∧ b < B ∧ len = xs.length := by
  obtain ⟨hr, ⟨rfl, a', c', e⟩ | ⟨b', off', cap', e, hb, hc⟩⟩ := h
  · cases e; omega
  · cases e; exact ⟨b', off', rfl, hb, rfl⟩
set_option maxRecDepth 100000 in
set_option maxHeartbeats 1000000 in
theorem sumIn_any (B b off n c : Nat) (xs : List Int) (w : World) (h : Bys8 B w (.slice (some ⟨b, off, none⟩) n c) xs) (hn : n = xs.length) (h6 : 6 ≤ n) (hc : n ≤ c) (hl : n ≤ 1000000) :
    Calls Try.prog 81 #[.slice (some ⟨b, off, none⟩) n c] w fun e w' => e = .returned (.int .u32 (num4 xs : Nat)) ∧ w = w' := by
  obtain ⟨b0, q0, e0, c0⟩ := h.byte 2 (by omega)
  obtain ⟨b1, q1, e1, c1⟩ := h.byte 3 (by omega)
  obtain ⟨b2, q2, e2, c2⟩ := h.byte 4 (by omega)
  obtain ⟨b3, q3, e3, c3⟩ := h.byte 5 (by omega)
  have HE := Lib.hid (show num4 xs = ((b0 * 256 + b1) * 256 + b2) * 256 + b3 by unfold num4; rw [e0, e1, e2, e3])
  have hx : ∀ k : Nat, k < 4 → ∃ q : Nat, q < 256 ∧ w.cell? ⟨b, off + 2 + k, none⟩ = some (.int .u8 (q : Int)) ∧ part4 xs (k + 1) = part4 xs k * 256 + q := fun k hk => by
    obtain ⟨q, hq, e, hc⟩ := h.byte (2 + k) (by omega)
    exact ⟨q, hq, by rw [Nat.add_assoc]; exact hc, by show part4 xs k * 256 + (xs.getD (2 + k) 0).toNat = _; rw [e]⟩
  have hp : ∀ k : Nat, k ≤ 3 → part4 xs k < 16777216 := fun k hk => by
    have d0 : part4 xs 0 = 0 := rfl
    have d1 : part4 xs 1 = part4 xs 0 * 256 + b0 := by rw [← e0]; rfl
    have d2 : part4 xs 2 = part4 xs 1 * 256 + b1 := by rw [← e1]; rfl
    have d3 : part4 xs 3 = part4 xs 2 * 256 + b2 := by rw [← e2]; rfl
    have : k = 0 ∨ k = 1 ∨ k = 2 ∨ k = 3 := by omega
    rcases this with rfl | rfl | rfl | rfl <;> omega
  have HX := Lib.hid hx
  have HP := Lib.hid hp
  clear h hx hp c0 c1 c2 c3 e0 e1 e2 e3 HE
  go_enter Try.func81, Try.ntmps81
  go_wp2_with fail
  go_loopw [3, 9] (fun s i wr => wr = w ∧ ∃ k : Nat, k ≤ 4 ∧ i = .int .i64 (k : Int) ∧ s = .int .u32 (part4 xs k : Nat)) (fun _ i _ => (4 - intOf i).toNat)
  case atStart => exact ⟨rfl, 0, by omega, rfl, rfl⟩
  case round =>
    obtain ⟨rfl, k, hk, rfl, rfl⟩ := hrel
    by_cases hlt : k < 4
    · have i1 : (k : Int) < 4 := by omega
      obtain ⟨q, hq, hcell, hpk⟩ := HX.out k hlt
      have hP := HP.out k (by omega)
      have ho := or_u32 (part4 xs k) q hP hq
      rw [← hpk] at ho
      have hw : IntKind.u32.wrap ((part4 xs k : Int) * 256) = (part4 xs k : Int) * 256 := by rw [IntKind.wrap_u32]; omega
      have wk := wrap_succ (k := k) (by omega)
      have q0 : (0 : Int) ≤ (q : Int) := by omega
      have q1 : (q : Int) < 256 := by omega
      have HK := Lib.hid hlt
      clear hpk hlt hk
      obtain ⟨T, hT⟩ : ∃ T, part4 xs (k + 1) = T := ⟨_, rfl⟩
      rw [hT] at ho
      have HT := Lib.hid hT
      clear hT
      generalize part4 xs k = S at *
      go_wp2
      go_roundw
      case rel => exact ⟨by trivial, k + 1, HK.out, by first | rfl | rw [wk], by rw [HT.out]⟩
      case measure =>
        have hk2 := HK.out
        simp [intOf]
        omega
    · obtain rfl : k = 4 := by omega
      have i1 : ¬ ((4 : Nat) : Int) < 4 := by omega
      have HN := Lib.hid (part4_num xs)
      go_wp2
      go_ret
      exact ⟨by rw [← HN.out]; rfl, rfl⟩
/-- first: the record, as a piece of the bytes; or why there is none. -/
def firstV (b off : Nat) (xs : List Int) : Ending := if whyOf xs = 0 then .returned (.tuple #[.slice (some ⟨b, off + 6, none⟩) (num2 xs) (num2 xs), .int .i64 0]) else .returned (.tuple #[.slice none 0 0, .int .i64 (whyOf xs : Nat)])
set_option maxRecDepth 100000 in
set_option maxHeartbeats 1000000 in
theorem first_short (a : Option Addr) (n c : Nat) (xs : List Int) (w : World) (hn : n = xs.length) (h2 : n < 2) :
    Calls Try.prog 76 #[.slice a n c] w fun e w' => e = .returned (.tuple #[.slice none 0 0, .int .i64 (whyOf xs : Nat)]) ∧ w = w' := by
  rw [show whyOf xs = 1 by unfold whyOf; rw [if_pos (by omega)]]
  have i1 : (n : Int) < 2 := by omega
  clear hn h2
  go_enter Try.func76, Try.ntmps76
  go_wp2
  go_ret2
  exact ⟨rfl, rfl⟩
theorem wrap_256 {x : Nat} (h : x < 256) : wrap64 ((x : Int) * 256) = (x : Int) * 256 := by unfold wrap64; omega
theorem wrap_6 {m : Nat} (h : m < 65536) : wrap64 (6 + (m : Int)) = 6 + (m : Int) := by unfold wrap64; omega
theorem sl_rec (b off n c m : Nat) (h0 : 1 ≤ m) (h : 6 + m ≤ c) (W : World) : (Instr.slice 23 (.slice (some ⟨b, off, none⟩) n c) (some (.int .i64 6)) (some (.int .i64 (6 + (m : Int)))) (some (.int .i64 (6 + (m : Int))))).run Try.prog W = .ok (.slice (some ⟨b, off + 6, none⟩) m m) W := by
  rw [run_slice_lhm W 23 (some ⟨b, off, none⟩) n c (by rw [elem8]; exact Try.underlying23) .i64 .i64 .i64 6 (6 + (m : Int)) (6 + (m : Int)) (by omega) (by omega) (by omega) (by omega), elem8, size8]
  have e : (6 + (m : Int)).toNat = 6 + m := by omega
  simp [Result.andThen, e, sliced, Addr.add]
  omega
set_option maxRecDepth 100000 in
set_option maxHeartbeats 1000000 in
theorem first_any (b off n c : Nat) (xs : List Int) (w : World) (h : Bys8 w.heap.size w (.slice (some ⟨b, off, none⟩) n c) xs) (hn : n = xs.length) (h2 : 2 ≤ n) (hc : n ≤ c) (hl : n ≤ 1000000) :
    Calls Try.prog 76 #[.slice (some ⟨b, off, none⟩) n c] w fun e w' => e = firstV b off xs ∧ Below w.heap.size w w' := by
  obtain ⟨x0, q0, e0, c0⟩ := h.byte 0 (by omega)
  obtain ⟨x1, q1, e1, c1⟩ := h.byte 1 (by omega)
  have hnum : num2 xs = x0 * 256 + x1 := by unfold num2; rw [e0, e1]
  have hm : num2 xs < 65536 := by omega
  have i0 : ¬ (n : Int) < 2 := by omega
  have z0 : (0 : Int) ≤ (x0 : Int) := by omega
  have z1 : (x0 : Int) < 256 := by omega
  have z2 : (0 : Int) ≤ (x1 : Int) := by omega
  have z3 : (x1 : Int) < 256 := by omega
  have hwhy : whyOf xs = if ¬ (1 ≤ num2 xs ∧ num2 xs ≤ 4096) then 2 else if n < 6 + num2 xs then 1 else if sum32 (sum32 0 (xs.take 2)) (recOf xs) ≠ num4 xs then 3 else 0 := by
    unfold whyOf
    rw [if_neg (by omega), ← hn]
  rw [Nat.add_zero] at c0
  have hrec : 6 + num2 xs ≤ n → (recOf xs).length = num2 xs := fun q => by unfold recOf; rw [List.length_take, List.length_drop]; omega
  have htk : (xs.take 2).length = 2 := by rw [List.length_take]; omega
  have hT := h.take 2 (by omega)
  have hD : 1 ≤ num2 xs → 6 + num2 xs ≤ n → Bys8 w.heap.size w (.slice (some ⟨b, off + 6, none⟩) (num2 xs) (num2 xs)) (recOf xs) := fun q1 q2 => by
    exact (h.drop 6 (by omega) (num2 xs)).take (num2 xs) (by rw [List.length_drop]; omega)
  have ho := or_i64 x0 x1 q0 q1
  rw [← hnum] at ho
  have hw := wrap_256 q0
  have wm := wrap_6 hm
  have hF := Lib.hid (And.intro ho (And.intro hw wm))
  have HX := Lib.hid (And.intro h (And.intro hn (And.intro h2 (And.intro hc (And.intro hl (And.intro hrec (And.intro htk (And.intro hT hD))))))))
  clear h hn h2 hl q0 q1 e0 e1 hnum hm hrec htk hT hD ho hw wm
  generalize hmm : num2 xs = m at *
  have HM := Lib.hid hmm
  by_cases hL : 1 ≤ m ∧ m ≤ 4096
  · rw [if_neg (by simpa using hL)] at hwhy
    have HIL := Lib.hid (fun W => isLength_yes hL W)
    by_cases hsh : n < 6 + m
    · rw [if_pos hsh] at hwhy
      have HW := Lib.hid (show firstV b off xs = .returned (.tuple #[.slice none 0 0, .int .i64 1]) by unfold firstV; rw [hwhy]; rfl)
      have i1 : (n : Int) < 6 + (m : Int) := by omega
      clear hc hwhy hL hsh hmm
      obtain ⟨ho, hw, wm⟩ := hF.out
      clear hF
      go_enter Try.func76, Try.ntmps76
      go_wp2_with fail
      go_quiet (fail)
      go_wp2_with (first | (go_at_call 49; refine (HIL.out _).mono ?_; rintro e w' ⟨rfl, rfl⟩) | fail)
      go_ret2
      rw [HW.out]
      exact ⟨rfl, below_drewN (Below.refl _ _) _⟩
    · rw [if_neg hsh, ← sum32_app] at hwhy
      have i1 : ¬ (n : Int) < 6 + (m : Int) := by omega
      have sl := sl_rec b off n c m hL.1 (by omega)
      have i4 : (2 : Int) ≤ (c : Int) := by omega
      obtain ⟨S, hS⟩ : ∃ S, sum32 0 (xs.take 2 ++ recOf xs) = S := ⟨_, rfl⟩
      obtain ⟨T, hT⟩ : ∃ T, num4 xs = T := ⟨_, rfl⟩
      have HSO := Lib.hid (fun (W : World) (hB : Below w.heap.size w W) => show Calls Try.prog 65 #[.slice (some ⟨b, off, none⟩) 2 c, .slice (some ⟨b, off + 6, none⟩) m m] W (fun e w' => e = .returned (.int .u32 (S : Nat)) ∧ Below W.heap.size W w') from by
        obtain ⟨h, hn, h2, hc, hl, hrec, htk, hT, hD⟩ := HX.out
        have := sumOf_any _ 2 c _ _ m m _ W ((hT.below hB).mono hB.size) (((hD hL.1 (by omega)).below hB).mono hB.size) (by omega) (by rw [hrec (by omega)]; omega)
        rw [hS] at this
        exact this)
      have HSI := Lib.hid (fun (W : World) (hB : Below w.heap.size w W) => show Calls Try.prog 81 #[.slice (some ⟨b, off, none⟩) n c] W (fun e w' => e = .returned (.int .u32 (T : Nat)) ∧ W = w') from by
        obtain ⟨h, hn, h2, hc, hl, hrec, htk, hT', hD⟩ := HX.out
        have := sumIn_any w.heap.size b off n c xs W (h.below hB) hn (by omega) hc hl
        rw [hT] at this
        exact this)
      rw [hS, hT] at hwhy
      have HC := Lib.hid hc
      by_cases hST : S = T
      · subst hST
        rw [if_neg (by simp)] at hwhy
        have HW := Lib.hid (show firstV b off xs = .returned (.tuple #[.slice (some ⟨b, off + 6, none⟩) m m, .int .i64 0]) by unfold firstV; rw [hwhy, HM.out]; rfl)
        clear hc hwhy hL hsh hmm hS hT
        obtain ⟨ho, hw, wm⟩ := hF.out
        clear hF
        go_enter Try.func76, Try.ntmps76
        go_wp2_with fail
        go_quiet (fail)
        go_wp2_with (first
          | (go_at_call 49; refine (HIL.out _).mono ?_; rintro e w' ⟨rfl, rfl⟩)
          | (go_at_call 65; refine (HSO.out _ (below_drewN (Below.refl _ _) _)).mono ?_; rintro e w2 ⟨rfl, hB2⟩; have hB02 := (below_drewN (Below.refl w.heap.size w) nq).trans hB2)
          | (go_at_call 81; refine (HSI.out _ hB02).mono ?_; rintro e w3 ⟨rfl, rfl⟩)
          | fail)
        go_ret2
        rw [HW.out]
        exact ⟨rfl, hB02⟩
      · rw [if_pos hST] at hwhy
        have HW := Lib.hid (show firstV b off xs = .returned (.tuple #[.slice none 0 0, .int .i64 3]) by unfold firstV; rw [hwhy]; rfl)
        have i2 : ((S : Int) != (T : Int)) = true := by simp; omega
        clear hc hwhy hL hsh hmm hS hT hST
        obtain ⟨ho, hw, wm⟩ := hF.out
        clear hF
        go_enter Try.func76, Try.ntmps76
        go_wp2_with fail
        go_quiet (fail)
        go_wp2_with (first
          | (go_at_call 49; refine (HIL.out _).mono ?_; rintro e w' ⟨rfl, rfl⟩)
          | (go_at_call 65; refine (HSO.out _ (below_drewN (Below.refl _ _) _)).mono ?_; rintro e w2 ⟨rfl, hB2⟩; have hB02 := (below_drewN (Below.refl w.heap.size w) nq).trans hB2)
          | (go_at_call 81; refine (HSI.out _ hB02).mono ?_; rintro e w3 ⟨rfl, rfl⟩)
          | fail)
        go_ret2
        rw [HW.out]
        exact ⟨rfl, hB02⟩
  · rw [if_pos (by simpa using hL)] at hwhy
    have HIL := Lib.hid (fun W => isLength_no hL W)
    have HW := Lib.hid (show firstV b off xs = .returned (.tuple #[.slice none 0 0, .int .i64 2]) by unfold firstV; rw [hwhy]; rfl)
    clear hc hwhy hL hmm
    obtain ⟨ho, hw, wm⟩ := hF.out
    clear hF
    go_enter Try.func76, Try.ntmps76
    go_wp2_with fail
    go_quiet (fail)
    go_wp2_with (first | (go_at_call 49; refine (HIL.out _).mono ?_; rintro e w' ⟨rfl, rfl⟩) | fail)
    go_ret2
    rw [HW.out]
    exact ⟨rfl, below_drewN (Below.refl _ _) _⟩
/-- Read: the first record, and how long its frame is; or the error. -/
def ReadE (xs : List Int) (w : World) (e : Ending) (w' : World) : Prop :=
  (whyOf xs = 0 ∧ ∃ a c, e = .returned (.tuple #[.slice a (recOf xs).length c, .int .i64 (6 + (recOf xs).length : Nat), .int .i64 0]) ∧ Own8 w.heap.size w' (.slice a (recOf xs).length c) (recOf xs) ∧ Below w.heap.size w w') ∨
  (whyOf xs ≠ 0 ∧ e = .returned (.tuple #[.slice none 0 0, .int .i64 0, .int .i64 130]) ∧ Below w.heap.size w w')
theorem first_no (a : Option Addr) (n c : Nat) (xs : List Int) (w : World) (h : Bys8 w.heap.size w (.slice a n c) xs) (hc : n ≤ c) (hl : n ≤ 1000000) (hw : whyOf xs ≠ 0) :
    Calls Try.prog 76 #[.slice a n c] w fun e w' => e = .returned (.tuple #[.slice none 0 0, .int .i64 (whyOf xs : Nat)]) ∧ Below w.heap.size w w' := by
  obtain ⟨a1, c1, e⟩ := h.is
  cases e
  by_cases h2 : xs.length < 2
  · refine (first_short a xs.length c xs w rfl h2).mono ?_
    rintro e w' ⟨he, rfl⟩
    exact ⟨he, Below.refl _ _⟩
  · obtain ⟨b, off, rfl, _⟩ := h.ptr (by omega)
    refine (first_any b off xs.length c xs w h rfl (by omega) hc hl).mono ?_
    rintro e w' ⟨he, hB⟩
    unfold firstV at he
    rw [if_neg hw] at he
    exact ⟨he, hB⟩
theorem why_len {xs : List Int} (h : whyOf xs = 0) : 2 ≤ xs.length := by
  refine Classical.byContradiction fun q => ?_
  unfold whyOf at h
  rw [if_pos (by omega)] at h
  cases h
theorem first_yes (b off n c : Nat) (xs : List Int) (w : World) (h : Bys8 w.heap.size w (.slice (some ⟨b, off, none⟩) n c) xs) (hc : n ≤ c) (hl : n ≤ 1000000) (hw : whyOf xs = 0) :
    Calls Try.prog 76 #[.slice (some ⟨b, off, none⟩) n c] w fun e w' => e = .returned (.tuple #[.slice (some ⟨b, off + 6, none⟩) (recOf xs).length (recOf xs).length, .int .i64 0]) ∧ Below w.heap.size w w' := by
  obtain ⟨a1, c1, e⟩ := h.is
  cases e
  refine (first_any b off xs.length c xs w h rfl (why_len hw) hc hl).mono ?_
  rintro e w' ⟨he, hB⟩
  unfold firstV at he
  rw [if_pos hw] at he
  rw [(frame_of_why h.1 hw).2.1]
  exact ⟨he, hB⟩
theorem rec_bys {B : Nat} {w : World} {b off n c : Nat} {xs : List Int} (h : Bys8 B w (.slice (some ⟨b, off, none⟩) n c) xs) (hw : whyOf xs = 0) (k : Nat) : Bys8 B w (.slice (some ⟨b, off + 6, none⟩) (recOf xs).length k) (recOf xs) := by
  obtain ⟨h1, h2, h3, h4⟩ := frame_of_why h.1 hw
  rw [h2]
  exact (h.drop 6 (by unfold RecL at h1; omega) k).take (num2 xs) (by rw [List.length_drop]; omega)
end Go.Proofs.Ytpcbolmidnoaiaa
