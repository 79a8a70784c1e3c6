/- Contract of the program's Instants: the instants of a local time. -/
import Derived.Test.YtobnlcmamnoefaaDoorYExtras
import Derived.Test.YtobnlcmamnoefaaDoorYReverse
import Derived.Test.YtobnlcmamnoefaaDoorYOffs
import Derived.Test.YtobnlcmamnoefaaDoorKScope
set_option linter.unusedVariables false
set_option linter.unusedSimpArgs false
namespace Go.Proofs.YtobnlcmamnoefaaDoor
open Go.RowKit Go.Shelf
attribute [local go_sem] Oper.semAt_some
open Go.Sort in
/-- The library's Reverse, on a row of the call's own. -/
theorem reverse_own (base : Nat) (a : Option Addr) (n c : Nat) (L : List Int) (w : World) (hO : OwnI base w (.slice a n c) L) (hn : n = L.length) (hlen : L.length ≤ 1000) (hb : base ≤ w.heap.size) :
    Calls Tryd.prog 42 #[.slice a n c] w fun e w' => e = .returned (.tuple #[]) ∧ OwnI base w' (.slice a n c) L.reverse ∧ w.grownBy w' (Value.slice a n c).ownBlock := by
  subst hn
  obtain ⟨hx, hl, hrow⟩ := id hO
  rcases hrow with ⟨e1, e2⟩ | ⟨g, cap, cur, e, hg, hbk, hcap, hm, hs, ht⟩
  · have : L = [] := List.eq_nil_of_length_eq_zero e2
    subst this
    refine (reverse_none a c w).mono ?_
    rintro e W ⟨rfl, rfl⟩
    exact ⟨rfl, hO, ⟨rfl, rfl, rfl, Nat.le_refl _, fun _ _ _ => rfl⟩⟩
  · cases e
    have hc : ∀ j, j < L.length → cur[j]? = some (.int .i64 (L.getD j 0)) := fun j hj => by
      have e1 := valsI_get L j hj
      rw [← ht, Nat.mul_one, List.getElem?_take_of_lt hj] at e1
      simpa using e1
    have hH := holds_cells hbk hc
    have hr := reverse_arr g 0 c L.toArray w hH (by simp; omega)
    rw [List.size_toArray, List.reverse_toArray] at hr
    refine hr.mono ?_
    rintro e W ⟨rfl, q, rfl⟩
    refine ⟨rfl, ⟨fun x h => hx x (List.mem_reverse.1 h), ?_⟩, ?_⟩
    · have := ownsRow_sortedI (n := q) (os := #[]) (ss := L) (ts := L.reverse) (by simp) hg hbk hcap hm (by omega)
      rw [Go.Sort.grow_empty] at this
      rw [List.length_reverse]
      exact this
    · have := grownBy_sortedI (w := w) (g := g) (n := q) (os := #[]) L.reverse.toArray
      rw [Go.Sort.grow_empty] at this
      exact this
theorem instants_bad (off : Int) (a : Option Addr) (len cap : Nat) (R : Nat → Rl) (y m d h mi s : Int) (w : World) (hl : len ≤ 1000) (hR : RulesAt w.heap.size w a len R) (hz : ¬ ZoneIs off R len) :
    Calls Tryd.prog 20 #[zoneV off a len cap, momV y m d h mi s] w fun e w' => e = .returned (.tuple #[.slice none 0 0, .int .i64 70]) ∧ Below w.heap.size w w' := by
  have hb0 := (Below.refl _ w).alloc (Nat.le_refl _) (.cells #[.int .i64 off, .slice a len cap] 24)
  have hb1 := hb0.alloc hb0.size (.cells #[.int .i64 y, .int .i64 m, .int .i64 d, .int .i64 h, .int .i64 mi, .int .i64 s] 44)
  have H1 := Lib.hid (checkZ_any off a len cap R _ hl ((hR.next hb1).mono hb1.size))
  rw [zE_no hz] at H1
  have HB := Lib.hid hb1
  clear hb0 hb1 hz hR hl
  refine (callsIn_wide (n := 4)).1 ?_
  refine callsIn_of_wp_marks Tryd.func20 rfl trivial ?_ rfl
  simp only [Tryd.ntmps20, List.size_toArray, List.length_cons, List.length_nil, Nat.reduceAdd, Nat.reduceSub, Array.replicate_succ, Array.replicate_zero, List.push_toArray, List.append_toArray, List.nil_append, List.cons_append]
  gi_wp2
  refine wpIn_scope_straight (wpIn_seq ?_)
  gi_wp2_with (refine ⟨trivial, ?_⟩; gi_at_call 10; refine (callsIn_wide.2 H1.out).mono ?_; rintro e X ⟨rfl, hB1⟩)
  rw [Exit.noGoto_ret]
  exact ⟨_, results_tmp2 rfl _ _ _, rfl, HB.out.trans (hB1.mono HB.out.size)⟩
set_option maxRecDepth 100000 in
set_option maxHeartbeats 2000000 in
theorem instants_time (off : Int) (a : Option Addr) (len cap : Nat) (R : Nat → Rl) (y m d h mi s : Int) (w : World) (hR : RulesAt w.heap.size w a len R) (hz : ZoneIs off R len) (hT : Tabs w) (hm : ¬ MomIs y m d h mi s) :
    Calls Tryd.prog 20 #[zoneV off a len cap, momV y m d h mi s] w fun e w' => e = .returned (.tuple #[.slice none 0 0, .int .i64 60]) ∧ Below w.heap.size w w' := by
  have hl : len ≤ 1000 := by have := hz.2.1; omega
  have hb0 := (Below.refl _ w).alloc (Nat.le_refl _) (.cells #[.int .i64 off, .slice a len cap] 24)
  have hb1 := hb0.alloc hb0.size (.cells #[.int .i64 y, .int .i64 m, .int .i64 d, .int .i64 h, .int .i64 mi, .int .i64 s] 44)
  have hg := heap_alloc_new (w.alloc (.cells #[.int .i64 off, .slice a len cap] 24)) (.cells #[.int .i64 y, .int .i64 m, .int .i64 d, .int .i64 h, .int .i64 mi, .int .i64 s] 44)
  rw [World.size_alloc] at hg
  have H1 := Lib.hid (checkZ_any off a len cap R _ hl ((hR.next hb1).mono hb1.size))
  rw [zE_yes hz] at H1
  have H2 := Lib.hid (fun X (hX : Below w.heap.size w X) => instant_any y m d h mi s X (hT.next hX))
  rw [show instV y m d h mi s = 0 from if_neg hm, show momE y m d h mi s = 60 from if_neg hm] at H2
  have HB := Lib.hid hb1
  have HG := Lib.hid hg
  clear hb0 hb1 hz hR hl hm hT hg
  refine (callsIn_wide (n := 4)).1 ?_
  refine callsIn_of_wp_marks Tryd.func20 rfl trivial ?_ rfl
  simp only [Tryd.ntmps20, List.size_toArray, List.length_cons, List.length_nil, Nat.reduceAdd, Nat.reduceSub, Array.replicate_succ, Array.replicate_zero, List.push_toArray, List.append_toArray, List.nil_append, List.cons_append]
  gi_wp2
  refine wpIn_scope_straight (wpIn_seq ?_)
  gi_wp2_with (refine ⟨trivial, ?_⟩; gi_at_call 10; refine (callsIn_wide.2 H1.out).mono ?_; rintro e X ⟨rfl, hB1⟩; refine Hid.out ?_)
  refine Lib.hid ?_
  have hb := HB.out.trans (hB1.mono HB.out.size)
  have hg := (hB1.block (w.heap.size + 1) (Array.getElem?_eq_some_iff.1 HG.out).1).trans HG.out
  have a0 : X.cell? ⟨w.heap.size + 1, 0, none⟩ = some (.int .i64 y) := cell_of_row X _ 0 _ _ _ hg
  have a1 : X.cell? ⟨w.heap.size + 1, 1, none⟩ = some (.int .i64 m) := cell_of_row X _ 1 _ _ _ hg
  have a2 : X.cell? ⟨w.heap.size + 1, 2, none⟩ = some (.int .i64 d) := cell_of_row X _ 2 _ _ _ hg
  have a3 : X.cell? ⟨w.heap.size + 1, 3, none⟩ = some (.int .i64 h) := cell_of_row X _ 3 _ _ _ hg
  have a4 : X.cell? ⟨w.heap.size + 1, 4, none⟩ = some (.int .i64 mi) := cell_of_row X _ 4 _ _ _ hg
  have a5 : X.cell? ⟨w.heap.size + 1, 5, none⟩ = some (.int .i64 s) := cell_of_row X _ 5 _ _ _ hg
  have HBX := Lib.hid hb
  clear hB1 hb hg HB HG H1
  gi_wp2_with (refine ⟨trivial, ?_⟩; gi_at_call 28; refine (callsIn_wide.2 (H2.out _ HBX.out)).mono ?_; rintro e Y ⟨rfl, hB2⟩; refine Hid.out ?_)
  refine Lib.hid ?_
  have HBY := Lib.hid (HBX.out.trans (hB2.mono HBX.out.size))
  clear hB2 HBX H2 a0 a1 a2 a3 a4 a5
  gi_wp2
  rw [Exit.noGoto_ret]
  exact ⟨_, results_tmp2 rfl _ _ _, rfl, HBY.out.alloc HBY.out.size _⟩
end Go.Proofs.YtobnlcmamnoefaaDoor
