/- The contract of proceed at uint32: bits into a sum, one after another. -/
import Derived.Test.YtpcbolmidnoaiaaCBits
import Derived.Test.YtpcbolmidnoaiaaCWords
import Derived.Test.YtpcbolmidnoaiaaCScope
import Derived.Laws.EntriesVeiled
import Derived.WalkSmall
import Derived.Lib.Hide
set_option linter.unusedVariables false
namespace Go.Proofs.Ytpcbolmidnoaiaa
open Go.RowKit Go.Shelf
attribute [local go_sem] Oper.semAt_some
set_option maxRecDepth 100000 in
set_option maxHeartbeats 2000000 in
theorem proc32_any (s0 P : Nat) (hs0 : s0 < 4294967296) (hP : P < 4294967296) (a : Option Addr) (len cap : Nat) (xs : List Int) (hreach : xs.length ≤ 100000000000000) (w : World) (hI : Bys w.heap.size w (.slice a len cap) xs) :
    Calls Try.prog 82 #[.int .u32 s0, .int .u32 P, .slice a len cap] w fun e W' => e = .returned (.int .u32 (run P s0 (bitsL xs) : Nat)) ∧ Below w.heap.size w W' := by
  refine (callsIn_wide (n := 4)).1 ?_
  refine callsIn_of_wp_marks Try.func82 rfl trivial ?_ rfl
  simp only [Try.ntmps82, List.size_toArray, List.length_cons, List.length_nil, Nat.reduceAdd, Nat.reduceSub, Array.replicate_succ, Array.replicate_zero, List.push_toArray, List.append_toArray, List.nil_append, List.cons_append]
  gi_wp2
  refine wpIn_scope_straight (wpIn_seq (wpIn_label ?_))
  gi_wp2_with (refine ⟨trivial, ?_⟩; gi_at_call 83; refine (bits_in Fence.wide _ trivial rfl _ _ _ _).mono ?_; rintro e w' ⟨rfl, rfl⟩)
  have bS := Boxed.new w 103 (.int .u32 s0)
  have bP := Boxed.new (w.alloc (.cells #[.int .u32 s0] 103)) 103 (.int .u32 P)
  have bN := Boxed.new ((w.alloc (.cells #[.int .u32 s0] 103)).alloc (.cells #[.int .u32 P] 103)) 23 (.slice a len cap)
  simp only [World.size_alloc] at bP bN
  have hB0 : Below w.heap.size w (((w.alloc (.cells #[.int .u32 s0] 103)).alloc (.cells #[.int .u32 P] 103)).alloc (.cells #[.slice a len cap] 23)) := (((Below.refl _ w).alloc (Nat.le_refl _) _).alloc (by simp) _).alloc (by simp; omega) _
  refine wpIn_rangeFunc_ownG rfl (by omega) (gf := 84) (lb := #[.pointer (some ⟨w.heap.size + 1 + 1, 0, none⟩)]) rfl trivial (enters_of Try.func84 (by kernel_rfl) rfl)
    (bits_stops Fence.wide _ trivial rfl (by omega) (w.heap.size + 1 + 1) w.heap.size _ xs hreach _ (by simp) (by simp; omega) bN.cell (hI.below hB0)) belowK_t (belowK_b (by simp; omega)) (Below.refl _ _) (fun _ => rfl)
    (fun pre W => ((W.cell? ⟨w.heap.size, 0, none⟩ = some (.int .u32 (run P s0 pre : Nat)) ∧ W.frozen? ⟨w.heap.size, 0, none⟩ = false) ∧ W.cell? ⟨w.heap.size + 1, 0, none⟩ = some (.int .u32 P)) ∧ Below w.heap.size w W)
    (fun _ _ _ => False)
    (OwnFrom.and (Own.from (fun s A B row hs hg hr => ⟨⟨cell_kept hs.1.1 hg hr, (frozen_kept hs.1.1 hg hr).trans hs.1.2⟩, cell_kept hs.2 hg hr⟩) _) (ownFrom_below (Nat.le_refl _) (by simp; omega)))
    (fun _ _ _ _ _ hs _ _ => hs)
    ⟨⟨⟨((bS.alloc _).alloc _).cell, ((bS.alloc _).alloc _).frozen⟩, (bP.alloc _).cell⟩, hB0⟩
    (fun x => { tmps := #[.int .u32 s0, .int .u32 P, .slice a len cap, .pointer (some ⟨w.heap.size, 0, none⟩), .pointer (some ⟨w.heap.size + 1, 0, none⟩), undef, .int .u32 0, .int .u8 (bv x), undef, .slice a len cap, .func (.func 84) #[] #[.pointer (some ⟨w.heap.size + 1 + 1, 0, none⟩)], .int .u8 (bv x), undef, undef, undef, undef, undef, undef, undef, undef, undef, undef, undef, undef, undef], defers := [] }) ?assign ?body ?done ?stop
  case assign =>
    intro l x W K hK
    gi_wp2
    exact hK
  case body =>
    rintro l pre x W ⟨⟨⟨hcl, hfl⟩, hch⟩, hB⟩ _
    have hr : run P s0 pre < 4294967296 := run_lt (n := 32) hP pre hs0
    have e1 := run_snoc P s0 pre x
    generalize run P s0 pre = s at hcl hr e1
    have ho := out32 s x hr
    have n1 : (⟨w.heap.size, 0, none⟩ : Addr) ≠ ⟨w.heap.size + 1, 0, none⟩ := by simp
    have hl2 : 0 ≤ (s : Int) := Int.natCast_nonneg _
    have hr2 : (s : Int) < 4294967296 := by omega
    have wb : ∀ v, Below w.heap.size W (W.setCell ⟨w.heap.size, 0, none⟩ v) := fun v => (Below.refl _ _).setCell (p := ⟨w.heap.size, 0, none⟩) (Nat.le_refl _) _
    by_cases hx : (s.testBit 0 ^^ x) = true
    · have E := Lib.hid (stepv32_t hP hr hx)
      rw [if_pos hx] at ho
      clear hx
      cases x
      all_goals
        simp only [bv, if_true, if_false, Bool.false_eq_true] at ho ⊢
        have HW := Lib.hid wb
        clear wb
        gi_wp2
        refine ⟨((KeepsOthers.setCell _ _ _).trans (KeepsOthers.setCell _ _ _)).from _, (HW.out _).setCell (p := ⟨w.heap.size, 0, none⟩) (Nat.le_refl _) _, ⟨⟨?_, ?_⟩, ?_⟩, (hB.trans (HW.out _)).setCell (p := ⟨w.heap.size, 0, none⟩) (Nat.le_refl _) _⟩
        · rw [e1, ← E.out]
          exact World.cell?_setCell_same _ _ _ (World.cell?_setCell_same _ _ _ hcl)
        · exact (World.frozen?_setCell _ _ _ _).trans ((World.frozen?_setCell _ _ _ _).trans hfl)
        · exact (World.cell?_setCell_other _ _ _ _ n1).trans ((World.cell?_setCell_other _ _ _ _ n1).trans hch)
    · have hx' : (s.testBit 0 ^^ x) = false := by simpa using hx
      have E := Lib.hid (stepv_f (P := P) hx')
      rw [if_neg hx] at ho
      clear hx hx'
      cases x
      all_goals
        simp only [bv, if_true, if_false, Bool.false_eq_true] at ho ⊢
        have HW := Lib.hid wb
        clear wb
        gi_wp2
        refine ⟨(KeepsOthers.setCell _ _ _).from _, HW.out _, ⟨⟨?_, ?_⟩, ?_⟩, hB.trans (HW.out _)⟩
        · rw [e1, ← E.out]
          exact World.cell?_setCell_same _ _ _ hcl
        · exact (World.frozen?_setCell _ _ _ _).trans hfl
        · exact (World.cell?_setCell_other _ _ _ _ n1).trans hch
  case done =>
    rintro D ys W hD rfl ⟨⟨⟨hcl, hfl⟩, hch⟩, hB⟩ hK
    gi_wp2
    rw [Exit.noGoto_ret]
    refine ⟨by simp, .inl ⟨_, _, rfl, run_takeDeferred hK, ?_⟩⟩
    exact ⟨_, results_tmp rfl _ _ _, rfl, hB.trans (belowK_b (w := w) (Nat.le_refl _) _ D _ _ (by simp at hD; omega) hK rfl rfl)⟩
  case stop =>
    rintro D c pre W _ _ h _
    exact h.elim
end Go.Proofs.Ytpcbolmidnoaiaa
