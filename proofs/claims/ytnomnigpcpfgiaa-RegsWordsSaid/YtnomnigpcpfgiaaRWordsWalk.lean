/- The walk of the statement RegsWords. -/
import Derived.Test.YtnomnigpcpfgiaaRRefV
import Derived.Test.YtnomnigpcpfgiaaRBackWalk
set_option linter.unusedVariables false
namespace Go.Proofs.Ytnomnigpcpfgiaa
open Go.RowKit Go.Sort
theorem fw_facts (v : Nat) (hv : v < 18446744073709551616) (many o : Int) : ∃ (L : List Int) (k : Int), L.length ≤ 4 ∧
    (∀ w, Calls Try.prog 10 #[.int .u64 v, .int .i64 many, .int .i64 o] w (Regs L k w)) ∧
    (∀ w, Calls Try.prog 11 #[.int .u64 v, .int .i64 many, .int .i64 o] w (Regs L k w)) := by
  rcases words_or v hv many o with ⟨m, rfl, hf, ho, hc⟩ | ⟨hn, hc⟩
  · have hm := (fits_m hf).1
    exact ⟨_, 0, by rw [words_len v m hm o ho]; omega, hc, rwords_yes v m o hf ho⟩
  · exact ⟨[], 20, by simp, hc, rwords_no v hv many o hn⟩
theorem fv_facts (ls : List Int) (o : Int) : ∃ (n k : Int),
    (∀ a c w, Bys16 w.heap.size w (.slice a ls.length c) ls → Calls Try.prog 12 #[.slice a ls.length c, .int .i64 o] w (Num n k w)) ∧
    (∀ a c w, Bys16 w.heap.size w (.slice a ls.length c) ls → Calls Try.prog 13 #[.slice a ls.length c, .int .i64 o] w (Num n k w)) := by
  rcases value_or ls o with ⟨hm, ho, hc⟩ | ⟨hn, hc⟩
  · refine ⟨valL ls o, 0, hc, fun a c w hI => ?_⟩
    obtain ⟨hls, ⟨e, _⟩ | ⟨b, off, cap, e, hb, hcs⟩⟩ := hI
    · rw [e] at hm; simp at hm
    · cases e
      exact rvalue_yes b off _ ls o hm ho hls w hb hcs
  · exact ⟨0, 20, fun a c w _ => hc a c w, fun a c w _ => rvalue_no a _ c o hn w⟩
set_option maxRecDepth 100000 in
set_option maxHeartbeats 4000000 in
theorem words_law (n : Int) (many o : Int) (a : Option Addr) (len cap : Nat) (zs : List Int) (w : World) (hn : (Lit.int .u64 n).wf = true) (hmany : (Lit.int .i64 many).wf = true) (hoo : (Lit.int .i64 o).wf = true) (ha : IsRow .u16 w a len cap zs) :
    Calls Try.prog 3 #[.int .u64 n, .int .i64 many, .int .i64 o, .slice a len cap] w fun e w' => e = .returned (.bool true) ∧ Below w.heap.size w w' := by
  obtain ⟨h0, h1⟩ := bounds_u64 hn
  obtain ⟨v, rfl⟩ := Int.eq_ofNat_of_zero_le h0
  have hv : v < 18446744073709551616 := by omega
  obtain ⟨ls, hx, hI⟩ := bys16_of_row ha
  obtain ⟨a', c', e⟩ := hI.is
  cases e
  clear hx ha h0 h1 hn hmany hoo
  by_cases hl : ls.length ≤ 200
  · obtain ⟨L, k, hL, p1, p2⟩ := fw_facts v hv many o
    obtain ⟨N, j, q1, q2⟩ := fv_facts ls o
    have hgt : decide (200 < (ls.length : Int)) = false := by simp; omega
    have hap : ([] : List Int).length + ls.length ≤ 10000000000000 := by simp; omega
    have sm := fun a c b d (w : World) {B C : Nat} (h1 : Bys16 B w (.slice a ls.length c) ls) (h2 : Bys16 C w (.slice b ls.length d) ls) => same_yes a ls.length c b ls.length d ls (by omega) w h1 h2
    have sm2 := fun a c b d (w : World) {B C : Nat} (h1 : Bys16 B w (.slice a L.length c) L) (h2 : Bys16 C w (.slice b L.length d) L) => same_yes a L.length c b L.length d L (by omega) w h1 h2
    clear hl hL hv
    go_enter Try.func3, Try.ntmps3
    have hB0 : Below w.heap.size w (w.alloc (.cells #[] 48)) := (Below.refl w.heap.size w).alloc (Nat.le_refl _) _
    have hI0 := (hI.below hB0).mono hB0.size
    have hba := hB0.size
    go_wp2_with (refine wpList_bapp16 rfl (.tmp 21) (.tmp 22) rfl w.heap.size _ [] rfl (Own16.empty w) _ _ _ _ ls rfl hI0 hap hba ?_; intro a1 c1 w1 hO1 hB1)
    have h1 := hB0.trans hB1
    clear hB0 hI0 hba hB1
    refine (p1 w1).mono ?_
    rintro e w2 ⟨a2, c2, rfl, hO2, hB2⟩
    have h2 := h1.trans (hB2.mono h1.size)
    go_wp2_with fail
    refine (p2 w2).mono ?_
    rintro e w3 ⟨a3, c3, rfl, hO3, hB3⟩
    have h3 := h2.trans (hB3.mono h2.size)
    go_wp2_with fail
    refine (q1 _ _ w3 ((hI.below h3).mono h3.size)).mono ?_
    rintro e w4 ⟨rfl, hB4⟩
    have h4 := h3.trans (hB4.mono h3.size)
    go_wp2_with fail
    refine (q2 _ _ w4 ((hI.below h4).mono h4.size)).mono ?_
    rintro e w5 ⟨rfl, hB5⟩
    have h5 := h4.trans (hB5.mono h4.size)
    have hO1' := (((hO1.below hB2 (Nat.le_refl _)).below hB3 (Nat.le_refl _)).below hB4 (Nat.le_refl _)).below hB5 (Nat.le_refl _)
    have hO2' := ((hO2.below hB3 (Nat.le_refl _)).below hB4 (Nat.le_refl _)).below hB5 (Nat.le_refl _)
    have hO3' := (hO3.below hB4 (Nat.le_refl _)).below hB5 (Nat.le_refl _)
    go_wp2_with fail
    refine (sm2 a2 c2 a3 c3 w5 hO2'.bys hO3'.bys).mono ?_
    rintro e w6 ⟨rfl, hB6⟩
    have h6 := h5.trans (hB6.mono h5.size)
    have hO1'' := hO1'.below hB6 (Nat.le_refl _)
    go_wp2_with fail
    refine (sm a1 c1 _ _ w6 hO1''.bys (hI.below h6)).mono ?_
    rintro e w7 ⟨rfl, hB7⟩
    have h7 := h6.trans (hB7.mono h6.size)
    go_wp2
    go_ret
    exact ⟨rfl, h7⟩
  · have hgt : decide (200 < (ls.length : Int)) = true := by simp; omega
    clear hl hI
    go_enter Try.func3, Try.ntmps3
    go_wp2
    go_ret
    exact ⟨rfl, Below.refl _ _⟩
end Go.Proofs.Ytnomnigpcpfgiaa
