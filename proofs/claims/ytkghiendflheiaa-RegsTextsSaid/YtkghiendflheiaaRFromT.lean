/- FromText of the program: the text of registers. -/
import Derived.Test.YtkghiendflheiaaRBytes
import Derived.Test.YtkghiendflheiaaRScope
set_option linter.unusedVariables false
set_option linter.unusedSimpArgs false
namespace Go.Proofs.Ytkghiendflheiaa
open Go.RowKit Go.Shelf
attribute [local go_sem] Oper.semAt_some
/-- The bytes of registers up to the first 0. -/
def textL (ls : List Int) : List Int := (bytesL ls).takeWhile (fun x => x != 0)
theorem textL_cut (ls pre : List Int) (h : pre <+: ls) (bs rest : List Int) (hb : bytesL pre = bs ++ 0 :: rest) (hn : ∀ y ∈ bs, y ≠ 0) : textL ls = bs := by
  obtain ⟨t, rfl⟩ := h
  unfold textL
  rw [show bytesL (pre ++ t) = bytesL pre ++ bytesL t by simp [bytesL], hb, List.append_assoc, List.takeWhile_append_of_pos (by intro x hx; simpa using hn x hx)]
  simp
theorem textL_all (ls : List Int) (hn : ∀ y ∈ bytesL ls, y ≠ 0) : textL ls = bytesL ls := by
  unfold textL
  generalize bytesL ls = l at *
  induction l with
  | nil => rfl
  | cons x l ih =>
    have h1 := hn x (by simp)
    rw [List.takeWhile_cons_of_pos (by simpa using h1), ih (fun y hy => hn y (by simp [hy]))]
theorem conv_bys8 {B : Nat} {w : World} {A : Option Addr} {m c : Nat} {xs : List Int} (hb : Bys8 B w (.slice A m c) xs) : (convert 23 9 (.slice A m c)).run Try.prog w = .ok (.string (strOfNums xs)) w := by
  obtain ⟨hr, ⟨rfl, a, cap, e⟩ | ⟨b, off, cap, e, hB, hcs⟩⟩ := hb
  · cases e
    rw [run_convert_bytes_string w 23 9 5 _ 0 c Try.underlying23 Try.underlying5 Try.underlying9]
    cases A <;> simp [Conv.bytesToString, loadCells]
    all_goals rfl
  · cases e
    exact run_convert_bytes_arg w 23 5 Try.underlying23 Try.underlying5 b off _ c xs rfl hcs 9 Try.underlying9
set_option maxRecDepth 100000 in
set_option maxHeartbeats 2000000 in
theorem fromt_any (a : Option Addr) (len cap : Nat) (ls : List Int) (hl : len ≤ 500000) (w : World) (hI : Bys16 w.heap.size w (.slice a len cap) ls) :
    Calls Try.prog 11 #[.slice a len cap] w fun e w' => e = .returned (.string (strOfNums (textL ls))) ∧ Below w.heap.size w w' := by
  obtain ⟨a', c', e⟩ := hI.is
  cases e
  refine (callsIn_wide (n := 4)).1 ?_
  refine callsIn_of_wp_marks Try.func11 rfl trivial ?_ rfl
  simp only [Try.ntmps11, List.size_toArray, List.length_cons, List.length_nil, Nat.reduceAdd, Nat.reduceSub, Array.replicate_succ, Array.replicate_zero, List.push_toArray, List.append_toArray, List.nil_append, List.cons_append]
  gi_wp2
  refine wpIn_scope_straight (wpIn_seq ?_)
  gi_wp2
  refine wpIn_label ?_
  gi_wp2_with (refine ⟨trivial, ?_⟩; gi_at_call 19; refine (values_in Fence.wide _ trivial rfl _ _ _ _).mono ?_; rintro e w' ⟨rfl, rfl⟩)
  have bL := Boxed.new w 23 (.slice none 0 0)
  have bN := Boxed.new (w.alloc (.cells #[.slice none 0 0] 23)) 22 (.slice a ls.length cap)
  simp only [World.size_alloc] at bN
  have hB0 : Below w.heap.size w ((w.alloc (.cells #[.slice none 0 0] 23)).alloc (.cells #[.slice a ls.length cap] 22)) := ((Below.refl _ w).alloc (Nat.le_refl _) _).alloc (by simp) _
  refine wpIn_rangeFunc_ownG rfl (by omega) (gf := 30) (lb := #[.pointer (some ⟨w.heap.size + 1, 0, none⟩)]) rfl trivial (enters_of Try.func30 (by kernel_rfl) rfl)
    (values_stops Fence.wide _ trivial rfl (by omega) (w.heap.size + 1) w.heap.size _ ls (by omega) _ (by simp) (by simp; omega) bN.cell (hI.below hB0)) belowK_t (belowK_b (by simp; omega)) (Below.refl _ _) (fun _ => rfl)
    (fun pre W => (Holds8 w.heap.size w.heap.size (bytesL (nums pre)) W ∧ (pre.length ≤ ls.length ∧ ∀ y ∈ bytesL (nums pre), y ≠ 0)) ∧ Below w.heap.size w W)
    (fun c pre W => (∃ bs, c = .exit 0 ∧ (∃ rest, bytesL (nums pre) = bs ++ 0 :: rest) ∧ (∀ y ∈ bs, y ≠ 0) ∧ bs.length ≤ 2 * ls.length ∧ Holds8 w.heap.size w.heap.size bs W) ∧ Below w.heap.size w W)
    (OwnFrom.and (Own.from (fun s A B row hs hg hr => ⟨holds8_own w.heap.size w.heap.size (fun s => bytesL (nums s)) s A B row hs.1 hg hr, hs.2⟩) _) (ownFrom_below (Nat.le_refl _) (by simp; omega)))
    (fun c => OwnFrom.and (Own.from (fun s A B row hs hg hr => let ⟨bs, e, h1, h2, h4, h3⟩ := hs; ⟨bs, e, h1, h2, h4, holds8_own w.heap.size w.heap.size (fun _ : Unit => bs) () A B row h3 hg hr⟩) _) (ownFrom_below (Nat.le_refl _) (by simp; omega)))
    ⟨⟨⟨_, bL.alloc _, Own8.nil _ _⟩, by simp, by simp [bytesL, nums]⟩, hB0⟩
    (fun x => { tmps := #[.slice a ls.length cap, undef, .string ⟨#[]⟩, .pointer (some ⟨w.heap.size, 0, none⟩), .int .u16 x.1, undef, undef, .slice a ls.length cap, .func (.func 30) #[] #[.pointer (some ⟨w.heap.size + 1, 0, none⟩)], .int .u16 x.1, undef, undef, undef, undef, undef, undef, undef, undef, undef, undef, undef, undef, undef, undef], defers := [] }) ?assign ?body ?done ?stop
  case assign =>
    intro l x W K hK
    gi_wp2
    exact hK
  case body =>
    rintro l pre x W ⟨⟨⟨v, hv, hO⟩, hlen, hnz⟩, hB⟩ hlt
    obtain ⟨a', c', rfl⟩ := hO.form
    have hs := hB.size
    have hnl : (bytesL (nums pre)).length < 2 * ls.length := by rw [bytesL_len]; simp [nums]; omega
    have hx := x.2
    have hh := halves_any x.1 hx.1 (by omega) W
    have b0 : 0 ≤ x.1 / 256 ∧ x.1 / 256 < 256 := by omega
    have b1 : 0 ≤ x.1 % 256 ∧ x.1 % 256 < 256 := by omega
    have e1 := Lib.hid (show bytesL (nums (pre ++ [x])) = bytesL (nums pre) ++ [x.1 / 256, x.1 % 256] from by rw [nums_snoc, bytesL_snoc])
    have HLN := Lib.hid hlen
    have HLT := Lib.hid hlt
    have HNZ := Lib.hid hnz
    clear hlen hlt hnz
    generalize x.1 / 256 = p at *
    generalize x.1 % 256 = q at *
    generalize bytesL (nums pre) = ys at *
    have i0 : ∀ w, (Instr.index 48 (.agg #[.int .u8 p, .int .u8 q]) (.int .i64 0)).run Try.prog w = .ok (.int .u8 p) w := fun _ => by kernel_rfl
    have i1 : ∀ w, (Instr.index 48 (.agg #[.int .u8 p, .int .u8 q]) (.int .i64 1)).run Try.prog w = .ok (.int .u8 q) w := fun _ => by kernel_rfl
    have HV := Lib.hid hv
    have HOO := Lib.hid hO
    clear hv hO
    gi_wp2_with (refine ⟨trivial, ?_⟩; gi_at_call 20; refine (CallsIn.inRound l (callsIn_wide.2 hh)).mono ?_; rintro e W1 ⟨rfl, hW1⟩)
    have HB1 := Lib.hid hW1
    have HB := Lib.hid hB
    clear hW1 hB hh
    gi_loopw [12] (fun iv wr => ∃ (j : Nat) (a2 : Option Addr) (c2 : Nat) (zs : List Int), j ≤ 2 ∧ iv = .int .i64 j ∧ zs = ys ++ [p, q].take j ∧ (∀ y ∈ zs, y ≠ 0) ∧ Boxed wr w.heap.size 23 (.slice a2 zs.length c2) ∧ Own8 w.heap.size wr (.slice a2 zs.length c2) zs ∧ KeepsOthers W wr ∧ Below w.heap.size W wr) (fun iv _ => 2 - (intOf iv).toNat)
    case atStart => exact ⟨0, a', c', ys, by omega, rfl, by simp, HNZ.out, (HB1.out.block _ HV.out.lt).trans HV.out, HOO.out.below HB1.out (Nat.le_refl _), others8_of_below HB1.out, HB1.out.mono HB.out.size⟩
    case round =>
      obtain ⟨j, a2, c2, zs, hj, rfl, hzs, hzn, hbx, hOz, hko, hbw⟩ := hrel
      have hzl : zs.length = ys.length + j := by rw [hzs, List.length_append, List.length_take]; simp; omega
      have hzb : zs.length ≤ 2 * ls.length + 2 := by omega
      have HZL := Lib.hid hzl
      clear hzl
      have HZS := Lib.hid hzs
      have HZN := Lib.hid hzn
      have HKO := Lib.hid hko
      have HBW := Lib.hid hbw
      have HOZ := Lib.hid hOz
      have HBX := Lib.hid hbx
      have hsz : w.heap.size ≤ wr.heap.size := Nat.le_trans hs hbw.size
      clear hzs hzn hko hbw
      have hj3 : j = 0 ∨ j = 1 ∨ j = 2 := by omega
      rcases hj3 with rfl | rfl | rfl
      · by_cases hc : p = 0
        · have hcd : (p == 0) = true := by simp [hc]
          clear hbx hOz hc
          gi_wp2
          have hc : p = 0 := by simpa using hcd
          exact ⟨HKO.out.from _, ⟨zs, rfl, ⟨[q], by rw [e1.out, HZS.out, hc]; simp⟩, HZN.out, by have := HZL.out; omega, _, HBX.out, HOZ.out⟩, HB.out.trans HBW.out⟩
        · have hcd : (p == 0) = false := by simpa using hc
          have hbo := bys8_alloc (T := 5) wr [p] (by intro y hy; simp at hy; subst hy; assumption) #[.int .u8 p] rfl 1 1 rfl (0, 0)
          have hOa : Own8 w.heap.size (wr.alloc (.cells #[.int .u8 p] 5)) (.slice a2 zs.length c2) zs := hOz.below ((Below.refl _ _).alloc (Nat.le_refl _) _) (Nat.le_refl _)
          have hvc := hbx.cell
          have hvf := hbx.frozen
          have HC := Lib.hid hc
          have hml : zs.length + [p].length ≤ 10000000000000 := by simp; omega
          clear hc
          gi_wp2_with (first
            | (gi_at_builtin; refine wpListIn_bapp8 rfl (.tmp 17) (.tmp 19) rfl w.heap.size _ zs rfl hOa _ (some ⟨wr.heap.size, 0, none⟩) 1 1 [p] rfl hbo hml (by simp; omega) ?_; intro a3 c3 W2 hO2' hG2
               obtain ⟨hk1, hk2, hk3, hk4, hk5⟩ := HBX.out.appended (by decide) HOZ.out.2 hsz (by omega) hO2'.2 hG2
               have sc := hk1.cell
               have sf := hk1.frozen))
          have e2 : zs.length + 1 = (zs ++ [p]).length := by simp
          have hf2 : Own8 w.heap.size (W2.setCell ⟨w.heap.size, 0, none⟩ (.slice a3 (zs ++ [p]).length c3)) (.slice a3 (zs ++ [p]).length c3) (zs ++ [p]) := ⟨hO2'.1, hk3⟩
          rw [e2]
          have HF := Lib.hid hf2
          have K2 := Lib.hid hk2
          have K4 := Lib.hid hk4
          have K5 := Lib.hid hk5
          clear hf2 hk2 hk4 hk5 hk1 hk3 hO2' hG2
          go_roundw
          case rel => exact ⟨1, a3, c3, zs ++ [p], by omega, by go_num, by rw [HZS.out]; simp, (by intro y hy; rcases List.mem_append.1 hy with h | h; exact HZN.out y h; simp at h; subst h; exact HC.out), K2.out, HF.out, HKO.out.trans K4.out, HBW.out.trans K5.out⟩
          case measure => simp [intOf]
      · by_cases hc : q = 0
        · have hcd : (q == 0) = true := by simp [hc]
          clear hbx hOz hc
          gi_wp2
          have hc : q = 0 := by simpa using hcd
          exact ⟨HKO.out.from _, ⟨zs, rfl, ⟨[], by rw [e1.out, HZS.out, hc]; simp⟩, HZN.out, by have := HZL.out; omega, _, HBX.out, HOZ.out⟩, HB.out.trans HBW.out⟩
        · have hcd : (q == 0) = false := by simpa using hc
          have hbo := bys8_alloc (T := 5) wr [q] (by intro y hy; simp at hy; subst hy; assumption) #[.int .u8 q] rfl 1 1 rfl (0, 0)
          have hOa : Own8 w.heap.size (wr.alloc (.cells #[.int .u8 q] 5)) (.slice a2 zs.length c2) zs := hOz.below ((Below.refl _ _).alloc (Nat.le_refl _) _) (Nat.le_refl _)
          have hvc := hbx.cell
          have hvf := hbx.frozen
          have HC := Lib.hid hc
          have hml : zs.length + [q].length ≤ 10000000000000 := by simp; omega
          clear hc
          gi_wp2_with (first
            | (gi_at_builtin; refine wpListIn_bapp8 rfl (.tmp 17) (.tmp 19) rfl w.heap.size _ zs rfl hOa _ (some ⟨wr.heap.size, 0, none⟩) 1 1 [q] rfl hbo hml (by simp; omega) ?_; intro a3 c3 W2 hO2' hG2
               obtain ⟨hk1, hk2, hk3, hk4, hk5⟩ := HBX.out.appended (by decide) HOZ.out.2 hsz (by omega) hO2'.2 hG2
               have sc := hk1.cell
               have sf := hk1.frozen))
          have e2 : zs.length + 1 = (zs ++ [q]).length := by simp
          have hf2 : Own8 w.heap.size (W2.setCell ⟨w.heap.size, 0, none⟩ (.slice a3 (zs ++ [q]).length c3)) (.slice a3 (zs ++ [q]).length c3) (zs ++ [q]) := ⟨hO2'.1, hk3⟩
          rw [e2]
          have HF := Lib.hid hf2
          have K2 := Lib.hid hk2
          have K4 := Lib.hid hk4
          have K5 := Lib.hid hk5
          clear hf2 hk2 hk4 hk5 hk1 hk3 hO2' hG2
          go_roundw
          case rel => exact ⟨2, a3, c3, zs ++ [q], by omega, by go_num, by rw [HZS.out]; simp, (by intro y hy; rcases List.mem_append.1 hy with h | h; exact HZN.out y h; simp at h; subst h; exact HC.out), K2.out, HF.out, HKO.out.trans K4.out, HBW.out.trans K5.out⟩
          case measure => simp [intOf]
      · clear hbx hOz
        gi_wp2
        have h2 : zs = bytesL (nums (pre ++ [x])) := by rw [e1.out, HZS.out]; rfl
        rw [h2] at HBX HOZ HZN
        exact ⟨HKO.out.from _, HBW.out, ⟨⟨_, HBX.out, HOZ.out⟩, by simp; have := HLT.out; omega, HZN.out⟩, HB.out.trans HBW.out⟩
  case done =>
    rintro D ys W hD hys ⟨⟨⟨v, hv, hO⟩, hlen, hnz⟩, hB⟩ hK
    rw [hys] at hO hnz
    obtain ⟨a', c', rfl⟩ := hO.form
    have hvc := hv.cell
    have hcv0 := conv_bys8 hO.bys
    have hcv : (convert 23 9 (.slice a' (bytesL ls).length c')).run Try.prog W = .ok (.string (strOfNums (textL ls))) W := by rw [textL_all ls hnz]; exact hcv0
    clear hcv0
    gi_wp2
    rw [Exit.noGoto_ret]
    refine ⟨by simp, .inl ⟨_, _, rfl, run_takeDeferred hK, ?_⟩⟩
    exact ⟨_, results_tmp rfl _ _ _, rfl, hB.trans (belowK_b (w := w) (Nat.le_refl _) _ D _ _ (by simp at hD; omega) hK rfl rfl)⟩
  case stop =>
    rintro D c pre W hD hpre ⟨⟨bs, rfl, ⟨rest, hr⟩, hn, hbl, v, hv, hO⟩, hB⟩ hK
    obtain ⟨a', c', rfl⟩ := hO.form
    have hvc := hv.cell
    have hcv0 := conv_bys8 hO.bys
    have hcv : (convert 23 9 (.slice a' bs.length c')).run Try.prog W = .ok (.string (strOfNums (textL ls))) W := by rw [textL_cut ls _ hpre bs rest hr hn]; exact hcv0
    clear hcv0 hr
    gi_wp2
    rw [Exit.noGoto_ret]
    refine ⟨by simp, .inl ⟨_, _, rfl, run_takeDeferred hK, ?_⟩⟩
    exact ⟨_, results_tmp rfl _ _ _, rfl, hB.trans (belowK_b (w := w) (Nat.le_refl _) _ D _ _ (by simp at hD; omega) hK rfl rfl)⟩
end Go.Proofs.Ytkghiendflheiaa
