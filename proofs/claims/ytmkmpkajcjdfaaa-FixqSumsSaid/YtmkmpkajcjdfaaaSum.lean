/- The contract of fixq.Sum over any slice of int64: the sum of its numbers, or that it does not fit. -/
import Derived.Test.YtmkmpkajcjdfaaaValues
import Derived.Test.YtmkmpkajcjdfaaaAdder
import Derived.Laws.EntriesVeiled
import Derived.WalkSmall
set_option linter.unusedVariables false
namespace Go.Proofs.Ytmkmpkajcjdfaaa
open Go.RowKit Go.Shelf
attribute [local go_sem] Oper.semAt_some
def isum (zs : List I64) : Int := (zs.map (·.1)).sum
theorem isum_nil : isum [] = 0 := rfl
theorem isum_snoc (pre : List I64) (x : I64) : isum (pre ++ [x]) = isum pre + x.1 := by simp [isum, List.sum_append]
theorem isum_bd (zs : List I64) : -9223372036854775808 * (zs.length : Int) ≤ isum zs ∧ isum zs ≤ 9223372036854775808 * (zs.length : Int) := by
  induction zs with
  | nil => simp [isum]
  | cons x l ih =>
    have e : isum (x :: l) = x.1 + isum l := by simp [isum]
    have := x.2
    rw [e, List.length_cons]; push_cast; omega
set_option maxRecDepth 100000 in
set_option maxHeartbeats 2000000 in
theorem sum_any (a : Option Addr) (len cap : Nat) (zs : List I64) (hreach : zs.length * 8 ≤ 140737488351232) (w : World) (hI : Ints w.heap.size w (.slice a len cap) zs) :
    Calls Try.prog 15 #[.slice a len cap] w fun e W' => e = .returned (.tuple #[.int .i64 (tv (isum zs)), .int .i64 (te (isum zs))]) ∧ Below w.heap.size w W' := by
  refine (callsIn_wide (n := 4)).1 ?_
  refine callsIn_of_wp_marks Try.func15 rfl trivial ?_ rfl
  simp only [Try.ntmps15, List.size_toArray, List.length_cons, List.length_nil, Nat.reduceAdd, Nat.reduceSub, Array.replicate_succ, Array.replicate_zero, List.push_toArray, List.append_toArray, List.nil_append, List.cons_append]
  gi_wp2_with (refine ⟨trivial, ?_⟩; gi_at_call 34; refine (values_in Fence.wide _ trivial rfl _ _ _ _).mono ?_; rintro e w' ⟨rfl, rfl⟩)
  have bH := Boxed.new w 45 (.int .u64 0)
  have bL := Boxed.new (w.alloc (.cells #[.int .u64 0] 45)) 45 (.int .u64 0)
  have bA := Boxed.new ((w.alloc (.cells #[.int .u64 0] 45)).alloc (.cells #[.int .u64 0] 45)) 56 (.func (.func 31) #[] #[.pointer (some ⟨w.heap.size + 1, 0, none⟩), .pointer (some ⟨w.heap.size, 0, none⟩)])
  have bN := Boxed.new (((w.alloc (.cells #[.int .u64 0] 45)).alloc (.cells #[.int .u64 0] 45)).alloc (.cells #[(.func (.func 31) #[] #[.pointer (some ⟨w.heap.size + 1, 0, none⟩), .pointer (some ⟨w.heap.size, 0, none⟩)])] 56)) 32 (.slice a len cap)
  simp only [World.size_alloc] at bL bA bN
  have hB0 : Below w.heap.size w ((((w.alloc (.cells #[.int .u64 0] 45)).alloc (.cells #[.int .u64 0] 45)).alloc (.cells #[(.func (.func 31) #[] #[.pointer (some ⟨w.heap.size + 1, 0, none⟩), .pointer (some ⟨w.heap.size, 0, none⟩)])] 56)).alloc (.cells #[.slice a len cap] 32)) := ((((Below.refl _ w).alloc (Nat.le_refl _) _).alloc (by simp) _).alloc (by simp; omega) _).alloc (by simp; omega) _
  refine wpIn_rangeFunc_ownG rfl (by omega) (gf := 36) (lb := #[.pointer (some ⟨w.heap.size + 1 + 1 + 1, 0, none⟩)]) rfl trivial (enters_of Try.func36 (by kernel_rfl) rfl)
    (values_stops Fence.wide _ trivial rfl (by omega) (w.heap.size + 1 + 1 + 1) w.heap.size _ zs hreach _ (by simp) (by simp; omega) bN.cell (hI.below hB0)) belowK_t (belowK_b (by simp; omega)) (Below.refl _ _) (fun _ => rfl)
    (fun pre W => ((W.cell? ⟨w.heap.size + 1, 0, none⟩ = some (.int .u64 (lw (isum pre))) ∧ W.frozen? ⟨w.heap.size + 1, 0, none⟩ = false) ∧ (W.cell? ⟨w.heap.size, 0, none⟩ = some (.int .u64 (hw (isum pre))) ∧ W.frozen? ⟨w.heap.size, 0, none⟩ = false) ∧ W.cell? ⟨w.heap.size + 1 + 1, 0, none⟩ = some (.func (.func 31) #[] #[.pointer (some ⟨w.heap.size + 1, 0, none⟩), .pointer (some ⟨w.heap.size, 0, none⟩)])) ∧ Below w.heap.size w W)
    (fun _ _ _ => False)
    (OwnFrom.and (Own.from (fun s A B row hs hg hr => ⟨⟨cell_kept hs.1.1 hg hr, (frozen_kept hs.1.1 hg hr).trans hs.1.2⟩, ⟨cell_kept hs.2.1.1 hg hr, (frozen_kept hs.2.1.1 hg hr).trans hs.2.1.2⟩, cell_kept hs.2.2 hg hr⟩) _) (ownFrom_below (Nat.le_refl _) (by simp; omega)))
    (fun _ _ _ _ _ hs _ _ => hs)
    ⟨⟨⟨((bL.alloc _).alloc _).cell, ((bL.alloc _).alloc _).frozen⟩, ⟨(((bH.alloc _).alloc _).alloc _).cell, (((bH.alloc _).alloc _).alloc _).frozen⟩, (bA.alloc _).cell⟩, hB0⟩
    (fun x => { tmps := #[.slice a len cap, undef, .int .i64 0, .int .i64 0, .pointer (some ⟨w.heap.size, 0, none⟩), .pointer (some ⟨w.heap.size + 1, 0, none⟩), .pointer (some ⟨w.heap.size + 1 + 1, 0, none⟩), .int .i64 x.1, (.func (.func 31) #[] #[.pointer (some ⟨w.heap.size + 1, 0, none⟩), .pointer (some ⟨w.heap.size, 0, none⟩)]), .slice a len cap, .func (.func 36) #[] #[.pointer (some ⟨w.heap.size + 1 + 1 + 1, 0, none⟩)], .int .i64 x.1, undef, undef, undef, undef, undef, undef, undef, undef, undef, undef], defers := [] }) ?assign ?body ?done ?stop
  case assign =>
    intro l x W K hK
    gi_wp2
    exact hK
  case body =>
    rintro l pre x W ⟨⟨⟨hcl, hfl⟩, ⟨hch, hfh⟩, hca⟩, hB⟩ _
    gi_wp2_with (refine ⟨trivial, ?_⟩; gi_at_call 31; refine (CallsIn.inRound l (callsIn_wide.2 (adder_any (isum pre) x.1 (w.heap.size + 1) w.heap.size (by omega) x.2.1 x.2.2 _ hcl hch hfl hfh))).mono ?_; rintro e w' ⟨rfl, rfl⟩)
    have n1 : (⟨w.heap.size, 0, none⟩ : Addr) ≠ ⟨w.heap.size + 1, 0, none⟩ := by simp
    have n2 : (⟨w.heap.size, 0, none⟩ : Addr) ≠ ⟨w.heap.size + 1 + 1, 0, none⟩ := by simp
    have n3 : (⟨w.heap.size + 1, 0, none⟩ : Addr) ≠ ⟨w.heap.size + 1 + 1, 0, none⟩ := by simp
    refine ⟨((KeepsOthers.setCell _ _ _).trans ((KeepsOthers.setCell _ _ _).trans (KeepsOthers.drew _))).from _, (((Below.refl w.heap.size W).setCell (p := ⟨w.heap.size + 1, 0, none⟩) (by simp) _).setCell (p := ⟨w.heap.size, 0, none⟩) (Nat.le_refl _) _).drew, ⟨⟨?_, ?_⟩, ⟨?_, ?_⟩, ?_⟩, ((hB.setCell (p := ⟨w.heap.size + 1, 0, none⟩) (by simp) _).setCell (p := ⟨w.heap.size, 0, none⟩) (Nat.le_refl _) _).drew⟩
    · rw [isum_snoc]
      exact (World.cell?_setCell_other _ _ _ _ n1).trans (World.cell?_setCell_same _ _ _ hcl)
    · exact (World.frozen?_setCell _ _ _ _).trans ((World.frozen?_setCell _ _ _ _).trans hfl)
    · rw [isum_snoc]
      exact World.cell?_setCell_same _ _ _ ((World.cell?_setCell_other _ _ _ _ n1.symm).trans hch)
    · exact (World.frozen?_setCell _ _ _ _).trans ((World.frozen?_setCell _ _ _ _).trans hfh)
    · exact (World.cell?_setCell_other _ _ _ _ n2).trans ((World.cell?_setCell_other _ _ _ _ n3).trans hca)
  case done =>
    rintro D ys W hD rfl ⟨⟨⟨hcl, hfl⟩, ⟨hch, hfh⟩, hca⟩, hB⟩ hK
    have hbd := isum_bd ys
    obtain ⟨hne, hfit⟩ := words_fit (isum ys) (by omega) (by omega)
    obtain ⟨S, hS⟩ : ∃ S, isum ys = S := ⟨_, rfl⟩
    rw [hS] at hcl hch hne hfit
    have HS := Lib.hid hS
    clear hS
    have hwb := wrap_bd (lw S)
    by_cases hf : fits S = true
    · rw [hf] at hne
      have E1 : Hid (tv S = wrap64 (lw S)) := by show tv S = wrap64 (lw S); rw [hfit hf]; simp [tv, hf]
      have E2 : Hid (te S = 0) := by show te S = 0; simp [te, hf]
      clear hfit hf hbd hI hreach
      gi_wp2
      refine wpIn_wide.2 ?_
      go_quiet ((go_at_call 33; exact Calls.quiet_of_same ((signWord_any _ hwb.1 hwb.2 _).mono fun _ _ h => ⟨h.1, h.2.symm⟩)))
      gi_wp2
      refine ⟨by simp, .inl ⟨_, _, rfl, run_takeDeferred hK, ?_⟩⟩
      refine ⟨_, results_tmp2 rfl _ _ _, ?_, (below_drewN hB nq).trans (belowK_b (w := w) (Nat.le_refl _) _ D _ _ (by simp at hD; omega) hK rfl rfl)⟩
      rw [HS.out, E1.out, E2.out]
      rfl
    · rw [show fits S = false by simpa using hf] at hne
      have E1 : Hid (tv S = 0) := by show tv S = 0; simp [tv, hf]
      have E2 : Hid (te S = 10) := by show te S = 10; simp [te, hf]
      clear hfit hf hbd hI hreach
      gi_wp2
      refine wpIn_wide.2 ?_
      go_quiet ((go_at_call 33; exact Calls.quiet_of_same ((signWord_any _ hwb.1 hwb.2 _).mono fun _ _ h => ⟨h.1, h.2.symm⟩)))
      gi_wp2
      refine ⟨by simp, .inl ⟨_, _, rfl, run_takeDeferred hK, ?_⟩⟩
      refine ⟨_, results_tmp2 rfl _ _ _, ?_, (below_drewN hB nq).trans (belowK_b (w := w) (Nat.le_refl _) _ D _ _ (by simp at hD; omega) hK rfl rfl)⟩
      rw [HS.out, E1.out, E2.out]
      rfl
  case stop =>
    rintro D c pre W _ _ h _
    exact h.elim
end Go.Proofs.Ytmkmpkajcjdfaaa
