/- The walk of the statement RegsBack. -/
import Derived.Test.YtnomnigpcpfgiaaRMath3
import Derived.Test.YtnomnigpcpfgiaaRHalvesWalk
import Derived.Deep.QuietTactic
import Derived.BigQuiet
import Derived.IntWalk
set_option linter.unusedVariables false
namespace Go.Proofs.Ytnomnigpcpfgiaa
open Go.RowKit Go.Sort
def okO (o : Int) : Prop := o = 1 ∨ o = 2 ∨ o = 3 ∨ o = 4
theorem words_or (v : Nat) (hv : v < 18446744073709551616) (many o : Int) :
    (∃ m : Nat, many = m ∧ fitsB v m ∧ okO o ∧ ∀ w, Calls Try.prog 10 #[.int .u64 v, .int .i64 many, .int .i64 o] w (Regs (wordsL v m o) 0 w)) ∨
    ((∀ m : Nat, many = m → fitsB v m → ¬ okO o) ∧ ∀ w, Calls Try.prog 10 #[.int .u64 v, .int .i64 many, .int .i64 o] w (Regs [] 20 w)) := by
  by_cases h : ∃ m : Nat, many = m ∧ fitsB v m
  · obtain ⟨m, rfl, hf⟩ := h
    by_cases ho : okO o
    · exact .inl ⟨m, rfl, hf, ho, words_yes v m o hf ho⟩
    · refine .inr ⟨fun k e _ => ho, words_no2 v m o hf ?_⟩
      unfold okO at ho; omega
  · exact .inr ⟨fun m e hf => absurd ⟨m, e, hf⟩ h, words_no1 v many o hv (fun k e hf => h ⟨k, e, hf⟩)⟩
theorem value_or (ls : List Int) (o : Int) :
    ((ls.length = 1 ∨ ls.length = 2 ∨ ls.length = 4) ∧ okO o ∧ ∀ a c w, Bys16 w.heap.size w (.slice a ls.length c) ls → Calls Try.prog 12 #[.slice a ls.length c, .int .i64 o] w (Num (valL ls o) 0 w)) ∨
    (((ls.length = 1 ∨ ls.length = 2 ∨ ls.length = 4) → ¬ okO o) ∧ ∀ a c w, Calls Try.prog 12 #[.slice a ls.length c, .int .i64 o] w (Num 0 20 w)) := by
  by_cases h : ls.length = 1 ∨ ls.length = 2 ∨ ls.length = 4
  · have hl : lenB (ls.length : Int) = true := by unfold lenB; rcases h with h | h | h <;> rw [h] <;> rfl
    by_cases ho : okO o
    · exact .inl ⟨h, ho, fun a c w hI => value_yes a ls.length c ls o h ho w hI⟩
    · exact .inr ⟨fun _ => ho, fun a c w => value_no2 a ls.length c o hl (by unfold okO at ho; omega) w⟩
  · refine .inr ⟨fun h' => absurd h' h, fun a c w => value_no1 a ls.length c o ?_ w⟩
    unfold lenB
    have h1 : ¬ (ls.length : Int) = 1 := by omega
    have h2 : ¬ (ls.length : Int) = 2 := by omega
    have h4 : ¬ (ls.length : Int) = 4 := by omega
    simp [h1, h2, h4]
theorem back_facts (v : Nat) (hv : v < 18446744073709551616) (many o : Int) (ls : List Int) (hls : ∀ x ∈ ls, 0 ≤ x ∧ x < 65536) :
    ∃ (L1 : List Int) (k1 n2 k2 : Int) (N3 : Nat) (k3 : Int) (L4 : List Int) (k4 : Int) (X Y : List Int) (k5 : Int),
      (∀ w, Calls Try.prog 10 #[.int .u64 v, .int .i64 many, .int .i64 o] w (Regs L1 k1 w)) ∧
      (∀ a c w, Bys16 w.heap.size w (.slice a L1.length c) L1 → Calls Try.prog 12 #[.slice a L1.length c, .int .i64 o] w (Num n2 k2 w)) ∧
      ((k1 = 0 ∧ k2 = 0 ∧ n2 = v ∧ (L1.length : Int) = many) ∨ k1 = 20) ∧
      (∀ a c w, Bys16 w.heap.size w (.slice a ls.length c) ls → Calls Try.prog 12 #[.slice a ls.length c, .int .i64 o] w (Num N3 k3 w)) ∧
      (∀ w, Calls Try.prog 10 #[.int .u64 N3, .int .i64 ls.length, .int .i64 o] w (Regs L4 k4 w)) ∧
      ((k3 = 0 ∧ k4 = 0 ∧ ls = L4) ∨ k3 = 20) ∧
      (∀ w, Calls Try.prog 10 #[.int .u64 v, .int .i64 many, .int .i64 1] w (Regs X k5 w)) ∧
      (∀ w, Calls Try.prog 10 #[.int .u64 v, .int .i64 many, .int .i64 4] w (Regs Y k5 w)) ∧
      X.length = Y.length ∧ X.length ≤ 4 ∧ (∀ k, k < 2 * X.length → (bytesL Y).getD (2 * X.length - 1 - k) 0 = (bytesL X).getD k 0) := by
  have hP : ∃ (L1 : List Int) (k1 n2 k2 : Int), (∀ w, Calls Try.prog 10 #[.int .u64 v, .int .i64 many, .int .i64 o] w (Regs L1 k1 w)) ∧
      (∀ a c w, Bys16 w.heap.size w (.slice a L1.length c) L1 → Calls Try.prog 12 #[.slice a L1.length c, .int .i64 o] w (Num n2 k2 w)) ∧
      ((k1 = 0 ∧ k2 = 0 ∧ n2 = v ∧ (L1.length : Int) = many) ∨ k1 = 20) := by
    rcases words_or v hv many o with ⟨m, rfl, hf, ho, hc⟩ | ⟨hn, hc⟩
    · have hm := (fits_m hf).1
      have hlen := words_len v m hm o ho
      refine ⟨_, 0, v, 0, hc, fun a c w hI => ?_, .inl ⟨rfl, rfl, rfl, by rw [hlen]⟩⟩
      have := value_yes a _ c _ o (by rw [hlen]; exact hm) ho w hI
      rwa [val_words v m hf o ho] at this
    · rcases value_or [] o with ⟨h, _⟩ | ⟨_, h⟩
      · simp at h
      · exact ⟨[], 20, 0, 20, hc, fun a c w _ => h a c w, .inr rfl⟩
  have hQ : ∃ (N3 : Nat) (k3 : Int) (L4 : List Int) (k4 : Int), (∀ a c w, Bys16 w.heap.size w (.slice a ls.length c) ls → Calls Try.prog 12 #[.slice a ls.length c, .int .i64 o] w (Num N3 k3 w)) ∧
      (∀ w, Calls Try.prog 10 #[.int .u64 N3, .int .i64 ls.length, .int .i64 o] w (Regs L4 k4 w)) ∧ ((k3 = 0 ∧ k4 = 0 ∧ ls = L4) ∨ k3 = 20) := by
    rcases value_or ls o with ⟨hm, ho, hc⟩ | ⟨hn, hc⟩
    · obtain ⟨V, hV, hf, hw⟩ := words_val ls hls hm o ho
      rw [hV] at hc
      refine ⟨V, 0, ls, 0, hc, fun w => ?_, .inl ⟨rfl, rfl, rfl⟩⟩
      have := words_yes V ls.length o hf ho w
      rwa [hw] at this
    · rcases words_or 0 (by omega) ls.length o with ⟨m, e, hf, ho, hw⟩ | ⟨_, hw⟩
      · have hm := (fits_m hf).1
        exact absurd ho (hn (by omega))
      · exact ⟨0, 20, [], 20, fun a c w _ => hc a c w, hw, .inr rfl⟩
  have hR : ∃ (X Y : List Int) (k5 : Int), (∀ w, Calls Try.prog 10 #[.int .u64 v, .int .i64 many, .int .i64 1] w (Regs X k5 w)) ∧
      (∀ w, Calls Try.prog 10 #[.int .u64 v, .int .i64 many, .int .i64 4] w (Regs Y k5 w)) ∧ X.length = Y.length ∧ X.length ≤ 4 ∧ (∀ k, k < 2 * X.length → (bytesL Y).getD (2 * X.length - 1 - k) 0 = (bytesL X).getD k 0) := by
    rcases words_or v hv many 1 with ⟨m, rfl, hf, ho, hc⟩ | ⟨hn, hc⟩
    · have hm := (fits_m hf).1
      have l1 := words_len v m hm 1 (by omega)
      have l4 := words_len v m hm 4 (by omega)
      refine ⟨_, wordsL v m 4, 0, hc, words_yes v m 4 hf (by omega), by rw [l1, l4], by omega, fun k hk => ?_⟩
      rw [l1] at hk ⊢
      exact bytes_turned v m hm k hk
    · rcases words_or v hv many 4 with ⟨m, rfl, hf, ho, hc4⟩ | ⟨_, hc4⟩
      · exact absurd (Or.inl rfl) (hn m rfl hf)
      · exact ⟨[], [], 20, hc, hc4, rfl, by simp, fun k hk => by simp at hk⟩
  obtain ⟨L1, k1, n2, k2, p1, p2, p3⟩ := hP
  obtain ⟨N3, k3, L4, k4, q1, q2, q3⟩ := hQ
  obtain ⟨X, Y, k5, r1, r2, r3, r4, r5⟩ := hR
  exact ⟨L1, k1, n2, k2, N3, k3, L4, k4, X, Y, k5, p1, p2, p3, q1, q2, q3, r1, r2, r3, r4, r5⟩
set_option maxRecDepth 100000 in
set_option maxHeartbeats 4000000 in
theorem back_any (n : Int) (a : Option Addr) (len cap : Nat) (zs : List Int) (many o : Int) (w : World) (hn : (Lit.int .u64 n).wf = true) (ha : IsRow .u16 w a len cap zs) (hmany : (Lit.int .i64 many).wf = true) (hoo : (Lit.int .i64 o).wf = true) :
    Calls Try.prog 7 #[.int .u64 n, .slice a len cap, .int .i64 many, .int .i64 o] w fun e w' => e = .returned (.bool true) ∧ Below w.heap.size w w' := by
  obtain ⟨h0, h1⟩ := bounds_u64 hn
  obtain ⟨v, rfl⟩ := Int.eq_ofNat_of_zero_le h0
  have hv : v < 18446744073709551616 := by omega
  obtain ⟨ls, hx, hI⟩ := bys16_of_row ha
  obtain ⟨a', c', e⟩ := hI.is
  cases e
  clear hx ha h0 h1 hn hmany hoo
  by_cases hl : ls.length ≤ 4
  · obtain ⟨L1, k1, n2, k2, N3, k3, L4, k4, X, Y, k5, p1, p2, p3, q1, q2, q3, r1, r2, r3, r4, r5⟩ := back_facts v hv many o ls hI.1
    have R3 := Lib.hid r3
    have R5 := Lib.hid r5
    have LS := Lib.hid hl
    clear r3 r5
    have hgt : decide (4 < (ls.length : Int)) = false := by simp; omega
    have xb := fun a c w (h : Bys16 w.heap.size w (.slice a X.length c) X) => bytes_any a X.length c X (by omega) w h
    have yb := fun a c w (h : Bys16 w.heap.size w (.slice a Y.length c) Y) => bytes_any a Y.length c Y (by have := R3.out; omega) w h
    have sm := fun a c b d (w : World) {B C : Nat} (h1 : Bys16 B w (.slice a ls.length c) ls) (h2 : Bys16 C w (.slice b ls.length d) ls) => same_yes a ls.length c b ls.length d ls (by omega) w h1 h2
    clear hl
    rcases q3 with ⟨rfl, rfl, rfl⟩ | rfl
    · rcases p3 with ⟨rfl, rfl, rfl, hlen⟩ | rfl
      all_goals
        go_enter Try.func7, Try.ntmps7
        go_wp2_with fail
        refine (alive_any w).mono ?_
        rintro e w1 ⟨rfl, h1⟩
        go_wp2_with fail
        refine (p1 w1).mono ?_
        rintro e w2 ⟨a2, c2, rfl, hO2, hB2⟩
        have h2 := h1.trans (hB2.mono h1.size)
        go_wp2_with fail
        refine (p2 a2 c2 w2 hO2.bys).mono ?_
        rintro e w3 ⟨rfl, hB3⟩
        have h3 := h2.trans (hB3.mono h2.size)
        go_wp2_with fail
        refine (q1 a cap w3 ((hI.below h3).mono h3.size)).mono ?_
        rintro e w4 ⟨rfl, hB4⟩
        have h4 := h3.trans (hB4.mono h3.size)
        go_wp2_with fail
        refine (q2 w4).mono ?_
        rintro e w5 ⟨a4, c4, rfl, hO5, hB5⟩
        have h5 := h4.trans (hB5.mono h4.size)
        go_wp2_with fail
        refine (sm a4 c4 a cap w5 hO5.bys (hI.below h5)).mono ?_
        rintro e w6 ⟨rfl, hB6⟩
        have h6 := h5.trans (hB6.mono h5.size)
        go_wp2_with fail
        refine (r1 w6).mono ?_
        rintro e w7 ⟨a7, c7, rfl, hO7, hB7⟩
        have h7 := h6.trans (hB7.mono h6.size)
        go_wp2_with fail
        refine (r2 w7).mono ?_
        rintro e w8 ⟨a8, c8, rfl, hO8, hB8⟩
        have h8 := h7.trans (hB8.mono h7.size)
        go_wp2_with fail
        refine (xb a7 c7 w8 (hO7.below hB8 (Nat.le_refl _)).bys).mono ?_
        rintro e w9 ⟨a9, c9, rfl, hO9, hB9⟩
        have h9 := h8.trans (hB9.mono h8.size)
        go_wp2_with fail
        refine (yb a8 c8 w9 (hO8.below hB9 (Nat.le_refl _)).bys).mono ?_
        rintro e w10 ⟨a10, c10, rfl, hO10, hB10⟩
        have h10 := h9.trans (hB10.mono h9.size)
        rw [← R3.out] at hO10 ⊢
        have hO9' := hO9.below hB10 (Nat.le_refl _)
        have lx := bytesL_len X
        have ly := bytesL_len Y
        rw [← R3.out] at ly
        have R5' := R5.out
        have hL8 : 2 * X.length ≤ 8 := by omega
        generalize 2 * X.length = L at *
        clear xb yb sm p1 p2 q1 q2 r1 r2
        have LX := Lib.hid lx
        have LY := Lib.hid ly
        have RR := Lib.hid R5'
        clear lx ly R5' R5
        rcases Nat.eq_zero_or_pos L with h0 | h0
        · have H0 := Lib.hid h0
          clear h0
          go_wp2
          go_loopw [24] (fun i wr => i = .int .i64 0 ∧ wr = w10) (fun i _ => 0)
          case atStart => exact ⟨rfl, rfl⟩
          case round =>
            obtain ⟨rfl, rfl⟩ := hrel
            have hnl : decide ((0 : Int) < (L : Int)) = false := by have := H0.out; simp; omega
            have hnl2 : L = 0 := H0.out
            subst hnl2
            clear hnl
            go_wp2
            go_ret
            exact ⟨rfl, h10⟩
        · obtain ⟨g9, rfl, _, hg9⟩ := hO9'.at_ h0
          obtain ⟨g10, rfl, _, hg10⟩ := hO10.at_ h0
          have hx9 : ∀ k, k < L → w10.cell? ⟨g9, k, none⟩ = some (.int .u8 ((bytesL X).getD k 0)) := by
            intro k hk
            obtain ⟨_, ⟨e, _⟩ | ⟨b', off', cap', e, _, hcs⟩⟩ := hO9'.bys
            · have := LX.out; rw [e] at this; simp at this; omega
            · cases e; have := hcs k (by have := LX.out; omega); simpa using this
          have hx10 : ∀ k, k < L → w10.cell? ⟨g10, k, none⟩ = some (.int .u8 ((bytesL Y).getD k 0)) := by
            intro k hk
            obtain ⟨_, ⟨e, _⟩ | ⟨b', off', cap', e, _, hcs⟩⟩ := hO10.bys
            · have := LY.out; rw [e] at this; simp at this; omega
            · cases e; have := hcs k (by have := LY.out; omega); simpa using this
          have X9 := Lib.hid hx9
          have X10 := Lib.hid hx10
          clear hx9 hx10 hO9 hO9' hO10 hO7 hO8 hO5 hO2
          go_wp2
          go_loopw [24] (fun i wr => ∃ k : Nat, k ≤ L ∧ i = .int .i64 k ∧ ∃ q, wr = w10.drewN q) (fun i _ => L - (intOf i).toNat)
          case atStart => exact ⟨0, Nat.zero_le _, rfl, 0, rfl⟩
          case round =>
            obtain ⟨k, hk, rfl, q, hwr⟩ := hrel
            by_cases hlt : k < L
            · have ca : wr.cell? ⟨g9, k, none⟩ = some (.int .u8 ((bytesL X).getD k 0)) := by rw [hwr]; exact X9.out k hlt
              have cb : wr.cell? ⟨g10, L - 1 - k, none⟩ = some (.int .u8 ((bytesL Y).getD (L - 1 - k) 0)) := by rw [hwr]; exact X10.out (L - 1 - k) (by omega)
              rw [RR.out k hlt] at cb
              generalize (bytesL X).getD k 0 = x at ca cb
              have HW := Lib.hid hwr
              clear hwr
              have s1 : IntKind.i64.wrap ((L : Int) - 1) = (L : Int) - 1 := IntWalk.i64_in _ (by omega)
              have s2 : IntKind.i64.wrap ((L : Int) - 1 - (k : Int)) = (L : Int) - 1 - (k : Int) := IntWalk.i64_in _ (by omega)
              have s3 : 0 ≤ (L : Int) - 1 - (k : Int) := by omega
              have s4 : ((L : Int) - 1 - (k : Int)).toNat = L - 1 - k := by omega
              have s5 : L - 1 - k < L := by omega
              have s6 : (L : Int) - 1 - (k : Int) < (L : Int) := by omega
              go_wp2_with fail
              go_quiet (fail)
              clear s1 s2 s3 s4 s5 s6
              go_wp2
              go_roundw
              case rel => exact ⟨k + 1, by omega, by simp, q + nq, by rw [HW.out]; simp [World.drewN, Nat.add_assoc]⟩
              case measure => simp [intOf]; omega
            · obtain rfl : k = L := by omega
              have HW := Lib.hid hwr
              clear hwr
              go_wp2
              go_ret
              exact ⟨rfl, h10.trans (by rw [HW.out]; exact ⟨rfl, rfl, rfl, Nat.le_refl _, fun _ _ => rfl⟩)⟩
    · rcases p3 with ⟨rfl, rfl, rfl, hlen⟩ | rfl
      all_goals
        go_enter Try.func7, Try.ntmps7
        go_wp2_with fail
        refine (alive_any w).mono ?_
        rintro e w1 ⟨rfl, h1⟩
        go_wp2_with fail
        refine (p1 w1).mono ?_
        rintro e w2 ⟨a2, c2, rfl, hO2, hB2⟩
        have h2 := h1.trans (hB2.mono h1.size)
        go_wp2_with fail
        refine (p2 a2 c2 w2 hO2.bys).mono ?_
        rintro e w3 ⟨rfl, hB3⟩
        have h3 := h2.trans (hB3.mono h2.size)
        go_wp2_with fail
        refine (q1 a cap w3 ((hI.below h3).mono h3.size)).mono ?_
        rintro e w4 ⟨rfl, hB4⟩
        have h4 := h3.trans (hB4.mono h3.size)
        go_wp2_with fail
        refine (q2 w4).mono ?_
        rintro e w5 ⟨a4, c4, rfl, hO5, hB5⟩
        have h5 := h4.trans (hB5.mono h4.size)
        go_wp2_with fail
        have h6 := h5
        refine (r1 w5).mono ?_
        rintro e w7 ⟨a7, c7, rfl, hO7, hB7⟩
        have h7 := h6.trans (hB7.mono h6.size)
        go_wp2_with fail
        refine (r2 w7).mono ?_
        rintro e w8 ⟨a8, c8, rfl, hO8, hB8⟩
        have h8 := h7.trans (hB8.mono h7.size)
        go_wp2_with fail
        refine (xb a7 c7 w8 (hO7.below hB8 (Nat.le_refl _)).bys).mono ?_
        rintro e w9 ⟨a9, c9, rfl, hO9, hB9⟩
        have h9 := h8.trans (hB9.mono h8.size)
        go_wp2_with fail
        refine (yb a8 c8 w9 (hO8.below hB9 (Nat.le_refl _)).bys).mono ?_
        rintro e w10 ⟨a10, c10, rfl, hO10, hB10⟩
        have h10 := h9.trans (hB10.mono h9.size)
        rw [← R3.out] at hO10 ⊢
        have hO9' := hO9.below hB10 (Nat.le_refl _)
        have lx := bytesL_len X
        have ly := bytesL_len Y
        rw [← R3.out] at ly
        have R5' := R5.out
        have hL8 : 2 * X.length ≤ 8 := by omega
        generalize 2 * X.length = L at *
        clear xb yb sm p1 p2 q1 q2 r1 r2
        have LX := Lib.hid lx
        have LY := Lib.hid ly
        have RR := Lib.hid R5'
        clear lx ly R5' R5
        rcases Nat.eq_zero_or_pos L with h0 | h0
        · have H0 := Lib.hid h0
          clear h0
          go_wp2
          go_loopw [24] (fun i wr => i = .int .i64 0 ∧ wr = w10) (fun i _ => 0)
          case atStart => exact ⟨rfl, rfl⟩
          case round =>
            obtain ⟨rfl, rfl⟩ := hrel
            have hnl : decide ((0 : Int) < (L : Int)) = false := by have := H0.out; simp; omega
            have hnl2 : L = 0 := H0.out
            subst hnl2
            clear hnl
            go_wp2
            go_ret
            exact ⟨rfl, h10⟩
        · obtain ⟨g9, rfl, _, hg9⟩ := hO9'.at_ h0
          obtain ⟨g10, rfl, _, hg10⟩ := hO10.at_ h0
          have hx9 : ∀ k, k < L → w10.cell? ⟨g9, k, none⟩ = some (.int .u8 ((bytesL X).getD k 0)) := by
            intro k hk
            obtain ⟨_, ⟨e, _⟩ | ⟨b', off', cap', e, _, hcs⟩⟩ := hO9'.bys
            · have := LX.out; rw [e] at this; simp at this; omega
            · cases e; have := hcs k (by have := LX.out; omega); simpa using this
          have hx10 : ∀ k, k < L → w10.cell? ⟨g10, k, none⟩ = some (.int .u8 ((bytesL Y).getD k 0)) := by
            intro k hk
            obtain ⟨_, ⟨e, _⟩ | ⟨b', off', cap', e, _, hcs⟩⟩ := hO10.bys
            · have := LY.out; rw [e] at this; simp at this; omega
            · cases e; have := hcs k (by have := LY.out; omega); simpa using this
          have X9 := Lib.hid hx9
          have X10 := Lib.hid hx10
          clear hx9 hx10 hO9 hO9' hO10 hO7 hO8 hO5 hO2
          go_wp2
          go_loopw [24] (fun i wr => ∃ k : Nat, k ≤ L ∧ i = .int .i64 k ∧ ∃ q, wr = w10.drewN q) (fun i _ => L - (intOf i).toNat)
          case atStart => exact ⟨0, Nat.zero_le _, rfl, 0, rfl⟩
          case round =>
            obtain ⟨k, hk, rfl, q, hwr⟩ := hrel
            by_cases hlt : k < L
            · have ca : wr.cell? ⟨g9, k, none⟩ = some (.int .u8 ((bytesL X).getD k 0)) := by rw [hwr]; exact X9.out k hlt
              have cb : wr.cell? ⟨g10, L - 1 - k, none⟩ = some (.int .u8 ((bytesL Y).getD (L - 1 - k) 0)) := by rw [hwr]; exact X10.out (L - 1 - k) (by omega)
              rw [RR.out k hlt] at cb
              generalize (bytesL X).getD k 0 = x at ca cb
              have HW := Lib.hid hwr
              clear hwr
              have s1 : IntKind.i64.wrap ((L : Int) - 1) = (L : Int) - 1 := IntWalk.i64_in _ (by omega)
              have s2 : IntKind.i64.wrap ((L : Int) - 1 - (k : Int)) = (L : Int) - 1 - (k : Int) := IntWalk.i64_in _ (by omega)
              have s3 : 0 ≤ (L : Int) - 1 - (k : Int) := by omega
              have s4 : ((L : Int) - 1 - (k : Int)).toNat = L - 1 - k := by omega
              have s5 : L - 1 - k < L := by omega
              have s6 : (L : Int) - 1 - (k : Int) < (L : Int) := by omega
              go_wp2_with fail
              go_quiet (fail)
              clear s1 s2 s3 s4 s5 s6
              go_wp2
              go_roundw
              case rel => exact ⟨k + 1, by omega, by simp, q + nq, by rw [HW.out]; simp [World.drewN, Nat.add_assoc]⟩
              case measure => simp [intOf]; omega
            · obtain rfl : k = L := by omega
              have HW := Lib.hid hwr
              clear hwr
              go_wp2
              go_ret
              exact ⟨rfl, h10.trans (by rw [HW.out]; exact ⟨rfl, rfl, rfl, Nat.le_refl _, fun _ _ => rfl⟩)⟩
  · have hgt : decide (4 < (ls.length : Int)) = true := by simp; omega
    have hgt2 : 4 < ls.length := by omega
    clear hl hI
    go_enter Try.func7, Try.ntmps7
    go_wp2_with fail
    refine (alive_any w).mono ?_
    rintro e w1 ⟨rfl, h1⟩
    go_wp2
    go_ret
    exact ⟨rfl, h1⟩
end Go.Proofs.Ytnomnigpcpfgiaa
