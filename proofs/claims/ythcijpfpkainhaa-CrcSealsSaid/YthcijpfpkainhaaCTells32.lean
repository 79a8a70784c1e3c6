/- What Open32 tells, and the document's Open: in one way. -/
import Derived.Test.YthcijpfpkainhaaCRefSeal
set_option linter.unusedVariables false
namespace Go.Proofs.Ythcijpfpkainhaa
open Go.RowKit Go.Shelf
/-- What is sealed in zs, and the error's number. -/
def o32 (zs : List Int) : List Int × Int := if 4 ≤ zs.length ∧ seal32 (zs.take (zs.length - 4)) = zs then (zs.take (zs.length - 4), 0) else ([], 30)
def Tells32 (ys : List Int) (k : Int) (w : World) (e : Ending) (w' : World) : Prop :=
  ∃ a c, e = .returned (.tuple #[.slice a ys.length c, .int .i64 k]) ∧ Bys w'.heap.size w' (.slice a ys.length c) ys ∧ Below w.heap.size w w'
theorem o32_short {zs : List Int} (h : zs.length < 4) : o32 zs = ([], 30) := by unfold o32; rw [if_neg (by omega)]
theorem o32_no {zs : List Int} {k : Nat} (hk : zs.length = k + 4) (h : seal32 (zs.take k) ≠ zs) : o32 zs = ([], 30) := by
  unfold o32; rw [if_neg]
  rintro ⟨_, h2⟩
  rw [hk, Nat.add_sub_cancel] at h2
  exact h h2
theorem o32_yes {zs : List Int} {k : Nat} (hk : zs.length = k + 4) (h : seal32 (zs.take k) = zs) : o32 zs = (zs.take k, 0) := by
  unfold o32; rw [if_pos, hk, Nat.add_sub_cancel]
  rw [hk, Nat.add_sub_cancel]
  exact ⟨by omega, h⟩
theorem open32_tells (a : Option Addr) (n c : Nat) (zs : List Int) (w : World) (hI : Bys w.heap.size w (.slice a n c) zs) (hcap : n ≤ c) (hl : zs.length ≤ 400000) :
    Calls Try.prog 21 #[.slice a n c] w (Tells32 (o32 zs).1 (o32 zs).2 w) := by
  obtain ⟨a', c', e⟩ := hI.is
  cases e
  by_cases h2 : zs.length < 4
  · rw [o32_short h2]
    exact (Open32_short a _ c w h2).mono fun e w' ⟨h, hb⟩ => ⟨none, 0, h, bys_nil _ _ _, hb⟩
  · obtain ⟨k, hk⟩ : ∃ k, zs.length = k + 4 := ⟨zs.length - 4, by omega⟩
    by_cases hs : seal32 (zs.take k) = zs
    · rw [o32_yes hk hs]
      have hlk : (zs.take k).length = k := by rw [List.length_take]; omega
      have h := Open32_yes a c (zs.take k) w (by rw [hs, hlk, ← hk]; exact hI) (by omega) (by omega)
      rw [hlk, ← hk] at h
      refine h.mono ?_
      rintro e w' ⟨a2, c2, he, hO, hB⟩
      exact ⟨a2, c2, he, hO.bys, hB⟩
    · rw [o32_no hk hs]
      have h := Open32_no a k c zs w (by rw [← hk]; exact hI) hk (by omega) hl hs
      rw [← hk] at h
      exact h.mono fun e w' ⟨h, hb⟩ => ⟨none, 0, h, bys_nil _ _ _, hb⟩
set_option maxRecDepth 100000 in
set_option maxHeartbeats 1000000 in
theorem ropen32_tells (a : Option Addr) (n c : Nat) (zs : List Int) (w : World) (hI : Bys w.heap.size w (.slice a n c) zs) (hcap : n ≤ c) (hl : zs.length ≤ 400000) :
    Calls Try.prog 20 #[.slice a n c, .int .i64 32] w (Tells32 (o32 zs).1 (o32 zs).2 w) := by
  obtain ⟨a', c', e⟩ := hI.is
  cases e
  by_cases h2 : zs.length < 4
  · rw [o32_short h2]
    have hneg : (zs.length : Int) - 4 < 0 := by omega
    go_enter Try.func20, Try.ntmps20
    go_wp2
    exact bodyPost_ret (v := .tuple #[.slice none 0 0, .int .i64 30]) (by simp [results, Try.results20, go_sem]) rfl ⟨none, 0, rfl, bys_nil _ _ _, Below.refl _ _⟩
  · obtain ⟨k, hk⟩ : ∃ k, zs.length = k + 4 := ⟨zs.length - 4, by omega⟩
    have hT := hI.take k (by omega)
    have hlk : (zs.take k).length = k := by rw [List.length_take]; omega
    have hsl := rseal32_any a k c (zs.take k) w hT (by omega)
    have hk4 : k ≤ 400000 := by omega
    have hkc : k + 4 ≤ c := by omega
    by_cases hs : seal32 (zs.take k) = zs
    · rw [o32_yes hk hs]
      rw [hs] at hsl
      rw [hk]
      have HK := Lib.hid hk
      have HL := Lib.hid hlk
      have HS := Lib.hid hs
      clear hk h2 hs hcap hlk
      go_enter Try.func20, Try.ntmps20
      go_wp2_with fail
      refine hsl.mono ?_
      rintro e w1 ⟨a1, c1, rfl, hO1, hB1⟩
      have q1 := conv_bys hO1.bys
      have q2 := conv_bys (hI.below hB1)
      rw [HK.out] at q1 q2 ⊢
      go_wp2
      exact bodyPost_ret (v := .tuple #[.slice a k c, .int .i64 0]) (by simp [results, Try.results20, go_sem]) rfl ⟨a, c, by rw [HL.out], by rw [HL.out]; exact (hT.below hB1).mono hB1.size, hB1⟩
    · rw [o32_no hk hs]
      have hne := hs
      rw [hk]
      have HK := Lib.hid hk
      have HNE := Lib.hid hne
      clear hk h2 hs hcap hlk hne
      go_enter Try.func20, Try.ntmps20
      go_wp2_with fail
      refine hsl.mono ?_
      rintro e w1 ⟨a1, c1, rfl, hO1, hB1⟩
      have q1 := conv_bys hO1.bys
      have q2 := conv_bys (hI.below hB1)
      rw [HK.out] at q2
      have hs2 : ((strOfNums (seal32 (zs.take k))).toList == (strOfNums zs).toList) = false := by
        rw [beq_eq_false_iff_ne]
        intro h
        rw [ByteArray.toList_eq, ByteArray.toList_eq] at h
        exact HNE.out (str_inj hO1.1 hI.1 (WideShapes.bytes_inj h))
      generalize strOfNums (seal32 (zs.take k)) = s at *
      generalize strOfNums zs = t at *
      have hs3 : (s.toList != t.toList) = true := by simp only [bne, hs2, Bool.not_false]
      go_wp2
      exact bodyPost_ret (v := .tuple #[.slice none 0 0, .int .i64 30]) (by simp [results, Try.results20, go_sem]) rfl ⟨none, 0, rfl, bys_nil _ _ _, hB1⟩
end Go.Proofs.Ythcijpfpkainhaa
