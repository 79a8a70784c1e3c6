/- The walk of FrameCut. -/
import Derived.Test.YtmhgphbafiilnaaFBack
set_option linter.unusedVariables false
set_option linter.unusedSimpArgs false
namespace Go.Proofs.Ytmhgphbafiilnaa
open Go.RowKit Go.Shelf
theorem whole_lt : ∀ (l : List (List Int)) (n k : Nat), k < wholeN l n → sizeN (l.take (k + 1)) ≤ n
  | [], n, k, h => by simp [wholeN] at h
  | L :: l, n, k, h => by
    unfold wholeN at h
    split at h
    · rename_i hw
      rw [List.take_succ_cons, sizeN_cons]
      cases k with
      | zero =>
        have : sizeN (l.take 0) = 0 := rfl
        omega
      | succ k =>
        have := whole_lt l (n - (6 + L.length)) k (by omega)
        omega
    · omega
theorem whole_stop : ∀ (l : List (List Int)) (n : Nat), wholeN l n < l.length → n < sizeN (l.take (wholeN l n + 1))
  | [], n, h => by simp at h
  | L :: l, n, h => by
    by_cases hw : 6 + L.length ≤ n
    · have e : wholeN (L :: l) n = wholeN l (n - (6 + L.length)) + 1 := by conv => lhs; unfold wholeN; rw [if_pos hw]
      rw [e] at h ⊢
      have := whole_stop l (n - (6 + L.length)) (by simpa using h)
      rw [List.take_succ_cons, sizeN_cons]
      omega
    · have e : wholeN (L :: l) n = 0 := by conv => lhs; unfold wholeN; rw [if_neg hw]
      rw [e, List.take_succ_cons, sizeN_cons]
      omega
theorem size_snoc (ls : List (List Int)) (k : Nat) (hk : k < ls.length) : sizeN (ls.take (k + 1)) = sizeN (ls.take k) + 6 + (ls.getD k []).length := by
  unfold sizeN
  rw [frames_snoc ls k hk, List.length_append, frameL_len]
  omega
theorem meas_succ {K k : Nat} (h : k < K) (w : wrap64 ((k : Int) + 1) = ((k + 1 : Nat) : Int)) : ((K : Int) - intOf (.int .i64 (wrap64 ((k : Int) + 1)))).toNat < ((K : Int) - intOf (.int .i64 (k : Int))).toNat := by
  rw [w]
  clear w
  show ((K : Int) - ((k + 1 : Nat) : Int)).toNat < ((K : Int) - ((k : Nat) : Int)).toNat
  omega
theorem elemS : Try.prog.elem 22 = 23 := by kernel_rfl
theorem sizeS (W : World) : (sizeOf 23).run Try.prog W = .ok 1 W := by
  obtain ⟨i, hi, _, hs, _⟩ := partsS
  simp [sizeOf, typeInfo, hi, hs]
theorem slice_toS (W : World) (a : Option Addr) (len c p : Nat) (hp : p ≤ c) : (Instr.slice 22 (.slice a len c) none (some (.int .i64 (p : Int))) none).run Try.prog W = .ok (.slice a p c) W := by
  rw [run_slice_h W 22 a len c (by rw [elemS]; exact Try.underlying22) .i64 p (by omega) (by omega), elemS, sizeS]
  simp [Result.andThen, sliced]
  intro _
  cases a <;> simp [Addr.add]
theorem w_add1 (F : Nat) (h : F ≤ 9000) : wrap64 ((F : Int) + 1) = ((F + 1 : Nat) : Int) := by unfold wrap64; omega
theorem place2 (cut : Int) (F : Nat) (h : F ≤ 9000) : ∃ (n : Nat) (S1 S2 : Int), wrap64 (cut.tmod ((F + 1 : Nat) : Int) + (F : Int)) = S1 ∧ wrap64 (S1 + 1) = S2 ∧ S2.tmod ((F + 1 : Nat) : Int) = (n : Int) ∧ n ≤ F := by
  have h1 := Int.tmod_lt_of_pos cut (show 0 < ((F + 1 : Nat) : Int) by omega)
  have h2 := Int.lt_tmod_of_pos cut (show 0 < ((F + 1 : Nat) : Int) by omega)
  generalize hT : cut.tmod ((F + 1 : Nat) : Int) = T at *
  have k1 := Int.tmod_lt_of_pos (T + F + 1) (show 0 < ((F + 1 : Nat) : Int) by omega)
  have k2 := Int.tmod_nonneg ((F + 1 : Nat) : Int) (show 0 ≤ T + F + 1 by omega)
  refine ⟨((T + F + 1).tmod ((F + 1 : Nat) : Int)).toNat, T + F, T + F + 1, w_small _ (by omega), w_small _ (by omega), ?_, ?_⟩
  · omega
  · omega

set_option maxRecDepth 100000 in
set_option maxHeartbeats 4000000 in
theorem cut_g1 (a0 : Option Addr) (n0 c0 : Nat) (ls : List (List Int)) (cut : Int) (a1 : Option Addr) (n1 c1 : Nat) (xs : List Int) (w : World) (h0 : BssAt w.heap.size w a0 ls) (e0 : ls.length = n0) (hc0 : n0 ≤ c0) (hs0 : sizeN ls ≤ 10000000) (h1 : Bys8 w.heap.size w (.slice a1 n1 c1) xs) (e1 : xs.length = n1) (hc1 : n1 ≤ c1) (hq : 9000 < sizeN ls) :
    Calls Try.prog 6 #[.slice a0 n0 c0, .int .i64 cut, .slice a1 n1 c1] w fun e w' => e = .returned (.bool true) ∧ Below w.heap.size w w' := by
  have hn0 : n0 ≤ 10000000 := by have := sizeN_len ls; omega
  have HA := Lib.hid (alive_any w)
  have hg := fun (W : World) (hB : Below w.heap.size w W) => great_any a0 n0 c0 ls W (h0.from hB (Nat.le_refl _)) e0.symm hn0 hs0
  rw [show ((greatE (sizeN ls) : Nat) : Int) = 1 by unfold greatE; rw [if_pos hq]; rfl] at hg
  have HG := Lib.hid hg
  clear h0 e0 hc0 hs0 h1 e1 hc1 hq hn0 hg
  go_enter Try.func6, Try.ntmps6
  go_wp2_with (first
    | (go_at_call 17; refine HA.out.mono ?_; rintro e w1 ⟨rfl, hB1⟩)
    | (go_at_call 8; refine (HG.out w1 hB1).mono ?_; rintro e wg ⟨rfl, rfl⟩)
    | fail)
  go_ret
  exact ⟨rfl, hB1⟩

set_option maxRecDepth 100000 in
set_option maxHeartbeats 4000000 in
theorem cut_g2 (a0 : Option Addr) (n0 c0 : Nat) (ls : List (List Int)) (cut : Int) (a1 : Option Addr) (n1 c1 : Nat) (xs : List Int) (w : World) (h0 : BssAt w.heap.size w a0 ls) (e0 : ls.length = n0) (hc0 : n0 ≤ c0) (hs0 : sizeN ls ≤ 10000000) (h1 : Bys8 w.heap.size w (.slice a1 n1 c1) xs) (e1 : xs.length = n1) (hc1 : n1 ≤ c1) (hq : ¬ 9000 < sizeN ls) (hq2 : 500 < n1) :
    Calls Try.prog 6 #[.slice a0 n0 c0, .int .i64 cut, .slice a1 n1 c1] w fun e w' => e = .returned (.bool true) ∧ Below w.heap.size w w' := by
  have hn0 : n0 ≤ 10000000 := by have := sizeN_len ls; omega
  have HA := Lib.hid (alive_any w)
  have hg := fun (W : World) (hB : Below w.heap.size w W) => great_any a0 n0 c0 ls W (h0.from hB (Nat.le_refl _)) e0.symm hn0 hs0
  rw [show ((greatE (sizeN ls) : Nat) : Int) = 0 by unfold greatE; rw [if_neg hq]; rfl] at hg
  have HG := Lib.hid hg
  have i1 : (500 : Int) < (n1 : Int) := by omega
  clear h0 e0 hc0 hs0 h1 e1 hc1 hq hq2 hn0 hg
  go_enter Try.func6, Try.ntmps6
  go_wp2_with (first
    | (go_at_call 17; refine HA.out.mono ?_; rintro e w1 ⟨rfl, hB1⟩)
    | (go_at_call 8; refine (HG.out w1 hB1).mono ?_; rintro e wg ⟨rfl, rfl⟩)
    | fail)
  go_ret
  exact ⟨rfl, hB1⟩

set_option maxRecDepth 100000 in
set_option maxHeartbeats 4000000 in
theorem cut_bad (a0 : Option Addr) (n0 c0 : Nat) (ls : List (List Int)) (cut : Int) (a1 : Option Addr) (n1 c1 : Nat) (xs : List Int) (w : World) (h0 : BssAt w.heap.size w a0 ls) (e0 : ls.length = n0) (hc0 : n0 ≤ c0) (hs0 : sizeN ls ≤ 10000000) (h1 : Bys8 w.heap.size w (.slice a1 n1 c1) xs) (e1 : xs.length = n1) (hc1 : n1 ≤ c1) (hq : ¬ 9000 < sizeN ls) (hq2 : ¬ 500 < n1) (hR : ¬ ∀ L ∈ ls, RecL L) :
    Calls Try.prog 6 #[.slice a0 n0 c0, .int .i64 cut, .slice a1 n1 c1] w fun e w' => e = .returned (.bool true) ∧ Below w.heap.size w w' := by
  have hn0 : n0 ≤ 10000000 := by have := sizeN_len ls; omega
  have HA := Lib.hid (alive_any w)
  have hg := fun (W : World) (hB : Below w.heap.size w W) => great_any a0 n0 c0 ls W (h0.from hB (Nat.le_refl _)) e0.symm hn0 hs0
  rw [show ((greatE (sizeN ls) : Nat) : Int) = 0 by unfold greatE; rw [if_neg hq]; rfl] at hg
  have HG := Lib.hid hg
  have i1 : ¬ (500 : Int) < (n1 : Int) := by omega
  have hall := fun (W : World) (hB : Below w.heap.size w W) => all_any a0 c0 ls W (h0.from hB (Nat.le_refl _)) hs0 (by omega)
  rw [e0] at hall
  have HALL := Lib.hid (fun (W : World) (hB : Below w.heap.size w W) => show Calls Try.prog 9 #[.slice a0 n0 c0] W (fun e w' => e = .returned (.tuple #[.slice none 0 0, .int .i64 130]) ∧ Below W.heap.size W w') from (hall W hB).mono (by
    rintro e w' (⟨q, _⟩ | ⟨_, he, hB⟩)
    · exact absurd q hR
    · exact ⟨he, hB⟩))
  clear h0 e0 hc0 hs0 h1 e1 hc1 hq hq2 hn0 hg hall hR
  go_enter Try.func6, Try.ntmps6
  go_wp2_with (first
    | (go_at_call 17; refine HA.out.mono ?_; rintro e w1 ⟨rfl, hB1⟩)
    | (go_at_call 8; refine (HG.out w1 hB1).mono ?_; rintro e wg ⟨rfl, rfl⟩)
    | (go_at_call 9; refine (HALL.out w1 hB1).mono ?_; rintro e w2 ⟨rfl, hB2⟩)
    | fail)
  go_ret
  exact ⟨rfl, hB1.trans (hB2.mono hB1.size)⟩

set_option maxRecDepth 100000 in
set_option maxHeartbeats 4000000 in
theorem cut_good (a0 : Option Addr) (n0 c0 : Nat) (ls : List (List Int)) (cut : Int) (a1 : Option Addr) (n1 c1 : Nat) (xs : List Int) (w : World) (h0 : BssAt w.heap.size w a0 ls) (e0 : ls.length = n0) (hc0 : n0 ≤ c0) (hs0 : sizeN ls ≤ 10000000) (h1 : Bys8 w.heap.size w (.slice a1 n1 c1) xs) (e1 : xs.length = n1) (hc1 : n1 ≤ c1) (hq : ¬ 9000 < sizeN ls) (hq2 : ¬ 500 < n1) (hR : ∀ L ∈ ls, RecL L) :
    Calls Try.prog 6 #[.slice a0 n0 c0, .int .i64 cut, .slice a1 n1 c1] w fun e w' => e = .returned (.bool true) ∧ Below w.heap.size w w' := by
  have hn0 : n0 ≤ 10000000 := by have := sizeN_len ls; omega
  have HA := Lib.hid (alive_any w)
  have hg := fun (W : World) (hB : Below w.heap.size w W) => great_any a0 n0 c0 ls W (h0.from hB (Nat.le_refl _)) e0.symm hn0 hs0
  rw [show ((greatE (sizeN ls) : Nat) : Int) = 0 by unfold greatE; rw [if_neg hq]; rfl] at hg
  have HG := Lib.hid hg
  have i1 : ¬ (500 : Int) < (n1 : Int) := by omega
  have hall := fun (W : World) (hB : Below w.heap.size w W) => all_any a0 c0 ls W (h0.from hB (Nat.le_refl _)) hs0 (by omega)
  rw [e0] at hall
  have HALL := Lib.hid (fun (W : World) (hB : Below w.heap.size w W) => show Calls Try.prog 9 #[.slice a0 n0 c0] W (fun e w' => ∃ a c, e = .returned (.tuple #[.slice a (sizeN ls) c, .int .i64 0]) ∧ sizeN ls ≤ c ∧ Bys8 w'.heap.size w' (.slice a (sizeN ls) c) (ls.map frameL).flatten ∧ Below W.heap.size W w') from (hall W hB).mono (by
    rintro e w' (⟨_, a, c, he, hO, hB⟩ | ⟨q, _⟩)
    · exact ⟨a, c, he, hO.cap, hO.bys, hB⟩
    · exact absurd hR q))
  obtain ⟨n, S1, S2, u2, u3, u4, hnF⟩ := place2 cut (sizeN ls) (by omega)
  have HU := Lib.hid (And.intro (w_add1 (sizeN ls) (by omega)) (And.intro u2 (And.intro u3 u4)))
  clear u2 u3 u4
  have i5 : ¬ (sizeN ls + 1 = 0) := by omega
  obtain ⟨rs, hcs⟩ := scans_cut ls hR n hnF
  obtain ⟨l2, rest2, hsc2⟩ := scans_any xs.length xs (Nat.le_refl _) h1.1
  have hmore := scans_more hR hsc2
  obtain ⟨K, hK⟩ : ∃ K, wholeN ls n = K := ⟨_, rfl⟩
  have hKl : K ≤ ls.length := by rw [← hK]; exact wholeN_le ls n
  have hlt : ∀ k, k < K → sizeN (ls.take (k + 1)) ≤ n := fun k hk => whole_lt ls n k (by rw [hK]; exact hk)
  have hst : K < ls.length → n < sizeN (ls.take (K + 1)) := fun hk => by have := whole_stop ls n (by rw [hK]; exact hk); rwa [hK] at this
  rw [hK] at hcs
  have hfl : (ls.map frameL).flatten.length = sizeN ls := rfl
  have HSA := Lib.hid (fun (W : World) (a : Option Addr) (c : Nat) (hc : n ≤ c) (hb : Bys8 W.heap.size W (.slice a (sizeN ls) c) (ls.map frameL).flatten) => show Calls Try.prog 13 #[.slice a n c] W (fun e w' => ∃ a c, e = .returned (.tuple #[.slice a K c, .int .i64 (sizeN (ls.take K) : Nat)]) ∧ BssAt w'.heap.size w' a (ls.take K) ∧ Below W.heap.size W w') from by
    have hlt : (ls.take K).length = K := by rw [List.length_take]; omega
    refine (scan_any a n c _ (ls.take K) rs W (hb.take n (by omega)) hc hcs (by rw [List.length_take]; omega)).mono ?_
    rintro e w' ⟨a, c, he, _, hb, hB⟩
    rw [hlt] at he
    exact ⟨a, c, he, hb, hB⟩)
  have HSM := Lib.hid (fun (W : World) (a : Option Addr) (c : Nat) (hc : sizeN ls + n1 ≤ c) (hb : Bys8 W.heap.size W (.slice a (sizeN ls + n1) c) ((ls.map frameL).flatten ++ xs)) => show Calls Try.prog 13 #[.slice a (sizeN ls + n1) c] W (fun e w' => ∃ a c, e = .returned (.tuple #[.slice a (n0 + l2.length) c, .int .i64 ((sizeN ls + sizeN l2 : Nat) : Int)]) ∧ n0 + l2.length ≤ c ∧ BssAt w'.heap.size w' a (ls ++ l2) ∧ Below W.heap.size W w') from by
    refine (scan_any a _ c _ (ls ++ l2) rest2 W hb hc hmore (by rw [List.length_append]; omega)).mono ?_
    rintro e w' ⟨a, c, he, hlc, hb, hB⟩
    rw [List.length_append, sizeN_app, e0] at he
    rw [List.length_append, e0] at hlc
    exact ⟨a, c, he, hlc, hb, hB⟩)
  have HSK := Lib.hid (fun (W : World) (hB : Below w.heap.size w W) (a : Option Addr) (c : Nat) (hb : BssAt W.heap.size W a (ls.take K)) => show Calls Try.prog 18 #[.slice a K c, .slice a0 K c0] W (fun e w' => e = .returned (.bool true) ∧ Below W.heap.size W w') from by
    have hlt : (ls.take K).length = K := by rw [List.length_take]; omega
    have := same_any a K c (ls.take K) a0 K c0 (ls.take K) W hb ((h0.take K).from hB (Nat.le_refl _)) hlt.symm hlt.symm (by omega) (by omega)
    rw [decide_eq_true rfl] at this
    exact this)
  have HSX := Lib.hid (fun (W : World) (hB : Below w.heap.size w W) (a : Option Addr) (c : Nat) (hb : BssAt W.heap.size W a (ls ++ l2)) => show Calls Try.prog 18 #[.slice a n0 c, .slice a0 n0 c0] W (fun e w' => e = .returned (.bool true) ∧ Below W.heap.size W w') from by
    have hb2 := hb.take n0
    rw [show (ls ++ l2).take n0 = ls by rw [← e0]; exact List.take_left] at hb2
    have := same_any a n0 c ls a0 n0 c0 ls W hb2 (h0.from hB (Nat.le_refl _)) e0.symm e0.symm hn0 hn0
    rw [decide_eq_true rfl] at this
    exact this)
  have hsm1 : n0 ≤ sizeN ls := by have := sizeN_len ls; omega
  obtain ⟨q2, hq2'⟩ : ∃ q2, l2.length = q2 := ⟨_, rfl⟩
  obtain ⟨z2, hz2'⟩ : ∃ z2, sizeN l2 = z2 := ⟨_, rfl⟩
  obtain ⟨F, hF⟩ : ∃ F, sizeN ls = F := ⟨_, rfl⟩
  obtain ⟨T, hT⟩ : ∃ T, sizeN (ls.take K) = T := ⟨_, rfl⟩
  rw [hq2', hz2', hF] at HSM
  rw [hF] at HALL HU i5
  rw [hF, hT] at HSA
  generalize F + 1 = M at *
  have slF := fun (W : World) (a : Option Addr) (c : Nat) (hc : n ≤ c) => slice_to8 W a F c n hc
  have slL := fun (W : World) => slice_toS W a0 n0 c0 K (by omega)
  have slX := fun (W : World) (a : Option Addr) (c : Nat) (hc : n0 + q2 ≤ c) => slice_toS W a (n0 + q2) c n0 (by omega)
  have i8 : (F : Int) ≤ ((F + z2 : Nat) : Int) := by omega
  have i9 : (n0 : Int) ≤ ((n0 + q2 : Nat) : Int) := by omega
  have HX := Lib.hid (And.intro h0 (And.intro e0 (And.intro hn0 (And.intro h1 (And.intro e1 (And.intro hlt (And.intro hst (And.intro hKl (And.intro hT (And.intro hfl (And.intro hF (show F ≤ 9000 ∧ n ≤ F ∧ n1 ≤ 500 ∧ K ≤ n0 by omega))))))))))))
  have HSL := Lib.hid (And.intro slF (And.intro slL slX))
  have HFN := Lib.hid (show ([] ++ (ls.map frameL).flatten).length = F ∧ ([] ++ (ls.map frameL).flatten ++ xs).length = F + n1 ∧ F ≤ 10000000000000 ∧ F + n1 ≤ 10000000000000 ∧ n ≤ F from ⟨by rw [List.nil_append]; omega, by rw [List.nil_append, List.length_append]; omega, by omega, by omega, by omega⟩)
  clear h0 e0 hc0 hs0 h1 e1 hc1 hq hq2 hn0 hg hall hR hnF hcs hsc2 hmore hK hKl hlt hst hfl hq2' hz2' hF hT slF slL slX hsm1
  obtain ⟨u1, u2, u3, u4⟩ := HU.out
  clear HU
  go_enter Try.func6, Try.ntmps6
  go_wp2_with (first
    | (go_at_call 17; refine HA.out.mono ?_; rintro e w1 ⟨rfl, hB1⟩)
    | (go_at_call 8; refine (HG.out w1 hB1).mono ?_; rintro e wg ⟨rfl, rfl⟩)
    | (go_at_call 9; refine (HALL.out w1 hB1).mono ?_; rintro e w2 ⟨fa, fc, rfl, hfc, hfb, hB2⟩
       have HB2 := Lib.hid (hB1.trans (hB2.mono hB1.size))
       have HFC := Lib.hid (And.intro hfc hfb)
       have sl1 := fun W => HSL.out.1 W fa fc (Nat.le_trans HFN.out.2.2.2.2 hfc)
       clear hfc hfb hB2 HALL)
    | (go_at_call 13; refine (HSA.out w2 fa fc (Nat.le_trans HFN.out.2.2.2.2 HFC.out.1) HFC.out.2).mono ?_; rintro e w3 ⟨ma, mc, rfl, hmb, hB3⟩
       have HB3 := Lib.hid (HB2.out.trans (hB3.mono HB2.out.size))
       have HM3 := Lib.hid hmb
       have HF3 := Lib.hid (HFC.out.2.grow hB3)
       clear hmb hB3 HSA u1 u2 u3 u4)
    | fail)
  go_loopw [13, 14] (fun i s wr => wr = w3 ∧ ∃ k : Nat, k ≤ K ∧ i = .int .i64 (k : Int) ∧ s = .int .i64 (sizeN (ls.take k) : Nat)) (fun i _ _ => (K - intOf i).toNat)
  case atStart => exact ⟨rfl, 0, Nat.zero_le _, rfl, rfl⟩
  case round =>
    obtain ⟨rfl, k, hk, rfl, rfl⟩ := hrel
    by_cases hkK : k < K
    · have hkn : k < n0 := by have := HX.out.2.2.2.2.2.2.2.2.2.2.2; omega
      obtain ⟨b, o, a2, c2, rfl, hb, cell, hq8, hq9⟩ := (HX.out.1.from HB3.out (Nat.le_refl _)).at k (by have := HX.out.2.1; omega)
      clear hq8 hq9
      have hsn := size_snoc ls k (by have := HX.out.2.1; omega)
      have hle := HX.out.2.2.2.2.2.1 k hkK
      have hbd := HX.out.2.2.2.2.2.2.2.2.2.2.2
      have hnn := HX.out.2.2.1
      generalize (ls.getD k []).length = m at *
      have HN := Lib.hid (And.intro hkK hsn)
      rw [hsn] at hle
      generalize sizeN (ls.take k) = S at *
      have i10 : (k : Int) < (n0 : Int) := by omega
      have i11 : (0 : Int) ≤ (k : Int) := by omega
      have i12 : (S : Int) + 6 + (m : Int) ≤ (n : Int) := by omega
      have hk63 : k < 9223372036854775807 := by omega
      have hb1 : S + 6 < 9223372036854775808 := by omega
      have hb2 : S + 6 + m < 9223372036854775808 := by omega
      have WK := Lib.hid (wrap_succ (k := k) hk63)
      have wS1 : wrap64 ((S : Int) + 6) = (S : Int) + 6 := wrap_nat (k := S + 6) hb1
      have wS2 : wrap64 ((S : Int) + 6 + (m : Int)) = (S : Int) + 6 + (m : Int) := wrap_nat (k := S + 6 + m) hb2
      clear hb1 hb2 hk63 hbd hle hsn hkK hk hkn hb hnn
      go_wp2
      go_roundw
      case rel => exact ⟨by trivial, k + 1, HN.out.1, by first | rfl | rw [WK.out], by rw [HN.out.2]; first | rfl | (rw [wS2]; rfl)⟩
      case measure => exact meas_succ HN.out.1 WK.out
    · obtain rfl : k = K := by omega
      have HE := Lib.hid (Own8.empty wr)
      have HBe := Lib.hid ((Below.refl wr.heap.size wr).alloc (Nat.le_refl _) (.cells #[] 5))
      rw [HX.out.2.2.2.2.2.2.2.2.1]
      by_cases hkn : k < n0
      · obtain ⟨b, o, a2, c2, rfl, hb, cell, hq8, hq9⟩ := (HX.out.1.from HB3.out (Nat.le_refl _)).at k (by have := HX.out.2.1; omega)
        clear hq8 hq9
        have hsn := size_snoc ls k (by have := HX.out.2.1; omega)
        have hle := HX.out.2.2.2.2.2.2.1 (by have := HX.out.2.1; omega)
        have hbd := HX.out.2.2.2.2.2.2.2.2.2.2.2
        rw [hsn, HX.out.2.2.2.2.2.2.2.2.1] at hle
        have hszl := size_take_le ls (k + 1)
        rw [hsn, HX.out.2.2.2.2.2.2.2.2.1, HX.out.2.2.2.2.2.2.2.2.2.2.1] at hszl
        generalize (ls.getD k []).length = m at *
        have i10 : (k : Int) < (n0 : Int) := by omega
        have i11 : (0 : Int) ≤ (k : Int) := by omega
        have i12 : ¬ (T : Int) + 6 + (m : Int) ≤ (n : Int) := by omega
        have hb1 : T + 6 < 9223372036854775808 := by omega
        have hb2 : T + 6 + m < 9223372036854775808 := by omega
        have wS1 : wrap64 ((T : Int) + 6) = (T : Int) + 6 := wrap_nat (k := T + 6) hb1
        have wS2 : wrap64 ((T : Int) + 6 + (m : Int)) = (T : Int) + 6 + (m : Int) := wrap_nat (k := T + 6 + m) hb2
        clear hb1 hb2 hbd hle hsn hkK hk hkn hb hszl
        go_wp2_with (first
          | (at_builtin; refine bapp8N rfl (.tmp 91) (.tmp 92) rfl wr.heap.size _ [] rfl HE.out wr.heap.size fa _ fc (ls.map frameL).flatten rfl (HF3.out.below HBe.out) F HFN.out.1 HFN.out.2.2.1 HBe.out.size ?_; intro a4 c4 w4 hO4 hB4
             have hB34 := HBe.out.trans hB4)
          | (at_builtin; refine bapp8N rfl (.tmp 93) (.tmp 94) rfl wr.heap.size _ ([] ++ (ls.map frameL).flatten) rfl hO4 w.heap.size a1 _ c1 xs rfl (HX.out.2.2.2.1.below (HB3.out.trans (hB34.mono HB3.out.size))) (F + n1) HFN.out.2.1 HFN.out.2.2.2.1 hB34.size ?_; intro a5 c5 w5 hO5 hB5
             have hB35 := hB34.trans hB5
             have HS5 := Lib.hid (HSM.out w5 a5 c5 hO5.cap hO5.bys)
             have HM5 := Lib.hid (HM3.out.grow hB35)
             have HB5 := Lib.hid (HB3.out.trans (hB35.mono HB3.out.size))
             clear hO4 hB4 hB34 hO5 hB5 hB35)
          | (go_at_call 13; refine HS5.out.mono ?_; rintro e w6 ⟨xa, xc, rfl, hxc, hxb, hB6⟩
             have HM6 := Lib.hid (HM5.out.grow hB6)
             have HB6 := Lib.hid (HB5.out.trans (hB6.mono HB5.out.size))
             have HX6 := Lib.hid hxb
             have sl2 := HSL.out.2.1
             have sl3 := fun W => HSL.out.2.2 W xa xc hxc
             clear hxc hxb hB6)
          | (go_at_call 18; with_reducible refine (HSK.out w6 HB6.out ma mc HM6.out).mono ?_; rintro e w7 ⟨rfl, hB7⟩
             have HB7 := Lib.hid (HB6.out.trans (hB7.mono HB6.out.size))
             have HX7 := Lib.hid (HX6.out.grow hB7)
             clear hB7)
          | (go_at_call 18; refine (HSX.out w7 HB7.out xa xc HX7.out).mono ?_; rintro e w8 ⟨rfl, hB8⟩
             have HB8 := Lib.hid (HB7.out.trans (hB8.mono HB7.out.size))
             clear hB8)
          | fail)
        go_ret
        exact ⟨rfl, HB8.out⟩
      · have i10 : ¬ (k : Int) < (n0 : Int) := by omega
        clear hkK hk hkn
        go_wp2_with (first
          | (at_builtin; refine bapp8N rfl (.tmp 91) (.tmp 92) rfl wr.heap.size _ [] rfl HE.out wr.heap.size fa _ fc (ls.map frameL).flatten rfl (HF3.out.below HBe.out) F HFN.out.1 HFN.out.2.2.1 HBe.out.size ?_; intro a4 c4 w4 hO4 hB4
             have hB34 := HBe.out.trans hB4)
          | (at_builtin; refine bapp8N rfl (.tmp 93) (.tmp 94) rfl wr.heap.size _ ([] ++ (ls.map frameL).flatten) rfl hO4 w.heap.size a1 _ c1 xs rfl (HX.out.2.2.2.1.below (HB3.out.trans (hB34.mono HB3.out.size))) (F + n1) HFN.out.2.1 HFN.out.2.2.2.1 hB34.size ?_; intro a5 c5 w5 hO5 hB5
             have hB35 := hB34.trans hB5
             have HS5 := Lib.hid (HSM.out w5 a5 c5 hO5.cap hO5.bys)
             have HM5 := Lib.hid (HM3.out.grow hB35)
             have HB5 := Lib.hid (HB3.out.trans (hB35.mono HB3.out.size))
             clear hO4 hB4 hB34 hO5 hB5 hB35)
          | (go_at_call 13; refine HS5.out.mono ?_; rintro e w6 ⟨xa, xc, rfl, hxc, hxb, hB6⟩
             have HM6 := Lib.hid (HM5.out.grow hB6)
             have HB6 := Lib.hid (HB5.out.trans (hB6.mono HB5.out.size))
             have HX6 := Lib.hid hxb
             have sl2 := HSL.out.2.1
             have sl3 := fun W => HSL.out.2.2 W xa xc hxc
             clear hxc hxb hB6)
          | (go_at_call 18; with_reducible refine (HSK.out w6 HB6.out ma mc HM6.out).mono ?_; rintro e w7 ⟨rfl, hB7⟩
             have HB7 := Lib.hid (HB6.out.trans (hB7.mono HB6.out.size))
             have HX7 := Lib.hid (HX6.out.grow hB7)
             clear hB7)
          | (go_at_call 18; refine (HSX.out w7 HB7.out xa xc HX7.out).mono ?_; rintro e w8 ⟨rfl, hB8⟩
             have HB8 := Lib.hid (HB7.out.trans (hB8.mono HB7.out.size))
             clear hB8)
          | fail)
        go_ret
        exact ⟨rfl, HB8.out⟩

theorem cutW (a0 : Option Addr) (c0 : Nat) (ls : List (List Int)) (cut : Int) (a1 : Option Addr) (n1 c1 : Nat) (z1 : List Int) (w : World) (w0 : ls.length ≤ c0 ∧ BssAt w.heap.size w a0 ls ∧ sizeN ls ≤ 10000000) (wi : (Lit.int .i64 cut).wf = true) (w1 : IsRow .u8 w a1 n1 c1 z1) :
    Calls Try.prog 6 #[.slice a0 ls.length c0, .int .i64 cut, .slice a1 n1 c1] w fun e w' => e = .returned (.bool true) ∧ Below w.heap.size w w' := by
  obtain ⟨hc0, h0, hs0⟩ := w0
  obtain ⟨xs, e1, h1⟩ := bys8_of_row w1
  have hc1 := row_cap w1
  by_cases hq : 9000 < sizeN ls
  · exact cut_g1 a0 _ c0 ls cut a1 n1 c1 xs w h0 rfl hc0 hs0 h1 e1 hc1 hq
  · by_cases hq2 : 500 < n1
    · exact cut_g2 a0 _ c0 ls cut a1 n1 c1 xs w h0 rfl hc0 hs0 h1 e1 hc1 hq hq2
    · by_cases hR : ∀ L ∈ ls, RecL L
      · exact cut_good a0 _ c0 ls cut a1 n1 c1 xs w h0 rfl hc0 hs0 h1 e1 hc1 hq hq2 hR
      · exact cut_bad a0 _ c0 ls cut a1 n1 c1 xs w h0 rfl hc0 hs0 h1 e1 hc1 hq hq2 hR
end Go.Proofs.Ytmhgphbafiilnaa