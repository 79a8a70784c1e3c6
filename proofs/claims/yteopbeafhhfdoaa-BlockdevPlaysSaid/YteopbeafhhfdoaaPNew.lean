/- The document's device: New, At. -/
import Derived.Test.YteopbeafhhfdoaaPCall
import Derived.Carry
import Derived.OwnWalk
set_option linter.unusedVariables false
set_option linter.unusedSimpArgs false
namespace Go.Proofs.Yteopbeafhhfdoaa
open Go.RowKit Go.Maps
theorem rdev_zero : (Try.prog.info? 42).map (fun i => (i.zero, i.size)) = some (some (.agg #[.int .i64 0, .map none, nilV, .int .i64 0, .bool false, .int .i64 0]), 6) := by kernel_rfl
theorem row_zero : (Try.prog.info? 32).map (fun i => (i.zero, i.size)) = some (some nilV, 1) := by kernel_rfl
def RNewE (w w' : World) (m : Nat) (e : Ending) : Prop := ∃ q : Rl, e = .returned (.tuple #[ptr q.D, .int .i64 0]) ∧ RefAt w' q (Dv.new m) ∧ (∀ k, rown q k → w.heap.size ≤ k) ∧ Below w.heap.size w w' ∧ q.u = 0
theorem rnew_end (m : Nat) (h0 : 0 < m) (h1 : m ≤ 65536) (w : World) : RNewE w ((w.alloc (.map #[] 0)).alloc (.cells #[.int .i64 (m : Int), .map (some w.heap.size), nilV, .int .i64 0, .bool false, .int .i64 0] 42)) m (.returned (.tuple #[ptr (w.heap.size + 1), .int .i64 0])) := by
  have hl : (Dv.new m).safe.length = m := by show (List.replicate _ _).length = _; simp
  have hm : (w.alloc (.map #[] 0)).ownsMap Try.prog 3 hR w.heap.size 0 (.map []) := World.ownsMap_made w _ _ _
  have hb : Below w.heap.size w ((w.alloc (.map #[] 0)).alloc (.cells #[.int .i64 (m : Int), .map (some w.heap.size), nilV, .int .i64 0, .bool false, .int .i64 0] 42)) := ((Below.refl _ w).alloc (Nat.le_refl _) _).alloc (by simp) _
  refine ⟨⟨w.heap.size + 1, w.heap.size, nilV, [], 0, fun _ => False⟩, rfl, ⟨?_, ⟨.map [], hm.alloc _, fun n hn => ⟨nilV, rfl, .inl ⟨rfl, ?_⟩, fun k hk => by cases hk⟩⟩, World.ownsRow_nil _ _ _ _, rfl, fun k hk => by simp at hk, Dv.new_ok h0 h1, fun k hk => by cases hk⟩, ?_, hb, rfl⟩
  · show At _ _ _ #[.int .i64 ((Dv.new m).safe.length : Nat), _, _, _, _, _]
    rw [hl]
    have := At.new 42 (w.alloc (.map #[] 0)) #[.int .i64 (m : Int), .map (some w.heap.size), nilV, .int .i64 0, .bool false, .int .i64 0]
    rwa [World.size_alloc] at this
  · rw [hl] at hn
    show (List.replicate m (List.replicate 128 0)).getD n [] = _
    simp [List.getD, hn]
  · rintro k (rfl | rfl | hk)
    · show w.heap.size ≤ w.heap.size + 1; omega
    · exact Nat.le_refl _
    · cases hk
theorem rnew_yes (m : Nat) (h0 : 0 < m) (h1 : m ≤ 65536) (w : World) : Calls Try.prog 9 #[.int .i64 (m : Int)] w fun e w' => RNewE w w' m e := by
  have i0 : ¬ ((m : Int) < 1) := by omega
  have i1 : ¬ ((65536 : Int) < (m : Int)) := by omega
  have HN := Lib.hid (rnew_end m h0 h1 w)
  have hz := (zero_of_info rdev_zero).1
  have hmm := @run_makeMap Try.prog
  clear h0 h1
  go_enter Try.func9, Try.ntmps9
  go_wp2
  go_ret2
  exact HN.out
theorem rnew_no (n : Int) (h : n < 1 ∨ 65536 < n) (w : World) : Calls Try.prog 9 #[.int .i64 n] w fun e w' => e = .returned (.tuple #[.pointer none, .int .i64 2]) ∧ w = w' := by
  by_cases h0 : n < 1
  · clear h
    go_enter Try.func9, Try.ntmps9
    go_wp2
    go_ret2
    exact ⟨rfl, rfl⟩
  · have h1 : 65536 < n := by omega
    clear h
    go_enter Try.func9, Try.ntmps9
    go_wp2
    go_ret2
    exact ⟨rfl, rfl⟩
theorem wf64 {x : Int} (h : -9223372036854775808 ≤ x) (h' : x ≤ 9223372036854775807) : (Lit.int .i64 x).wf = true := by
  have e : IntKind.i64.min = -9223372036854775808 := by decide
  simp [Lit.wf, e]
  omega
/-- What is kept of a sector. -/
theorem map_look {w : World} {M u : Nat} {G : Nat → Prop} {s : List (List Int)} (h : MapAt G w M u s) (n : Nat) (hn : n < s.length) (hb : s.length ≤ 65536) : ∃ v, (Instr.lookup 39 (.map (some M)) (.int .i64 (n : Int)) false).run Try.prog w = .ok v w ∧ SecV w v (s.getD n []) := by
  obtain ⟨D, hD, hs⟩ := h
  obtain ⟨v, h1, h2, h3⟩ := hs n hn
  obtain ⟨v', ps, hr, hv⟩ := hD.lookup key_law Try.underlying39 ((zero_of_info row_zero).1 w) (zd := .held nilV) (zp := []) rfl (key := .int .i64 (n : Int)) (kl := .int .i64 (n : Int)) (keyOf_int_mk Try.underlying3 (wf64 (by omega) (by omega)))
  rw [h1] at hv
  unfold hR at hv
  simp only [Option.some.injEq, Prod.mk.injEq, DataW.held.injEq] at hv
  rw [hv.1] at hr
  exact ⟨v, hr, h2⟩
end Go.Proofs.Yteopbeafhhfdoaa
