/- The contract of stretchAt. -/
import Derived.Test.YtmbimnphdhmapaaDoorBIter
import Derived.Test.YtmbimnphdhmapaaDoorKScope
import Derived.Test.YtmbimnphdhmapaaDoorBMay
set_option linter.unusedVariables false
set_option linter.unusedSimpArgs false
namespace Go.Proofs.YtmbimnphdhmapaaDoor
open Go.RowKit Go.Shelf
attribute [local go_sem] Oper.semAt_some
theorem results_sa {s : St} {ok : Bool} {b : Nat} {tmps : Array Value} {w : World} (h2 : tmps.getD 4 undef = .pointer (some ⟨b, 0, none⟩)) (h3 : tmps.getD 5 undef = .bool ok)
    (hb : w.heap[b]? = some (.cells (stC s) 71 (0, 0))) : (results Tryd.f41 tmps).run Tryd.prog w = .ok (.tuple #[stV s, .bool ok]) w := by
  obtain ⟨c0, c1, c2⟩ := cells3 hb
  simp only [Array.getD_eq_getD_getElem?] at h2 h3
  simp [results, Tryd.results41, go_sem, h2, h3, c0, c1, c2]
/-- No stretch of these ends behind the minute. -/
def NoEnd (x : Int) (pre : List St) : Prop := ∀ z ∈ pre, ¬ x < z.e
theorem NoEnd.snoc {x : Int} {pre : List St} {z : St} (h : NoEnd x pre) (hz : ¬ x < z.e) : NoEnd x (pre ++ [z]) := by
  intro q hq
  rcases List.mem_append.1 hq with h' | h'
  · exact h q h'
  · rw [List.mem_singleton.1 h']; exact hz
/-- The stretch that has the minute. -/
def HitIs (L : Nat → Sw) (len : Nat) (x : Int) (s : St) : Prop := s.d = bandN L len x ∧ (s.e = 1440 → BNext L len x 0 false) ∧ (s.e ≠ 1440 → BNext L len x s.e true)
/-- How the search ends. -/
def StopS (x : Int) (bf : Nat) (pre : List St) (W : World) : Prop :=
  ∃ (q : List St) (s : St), pre = q ++ [s] ∧ NoEnd x q ∧ x < s.e ∧ W.heap[bf]? = some (.cells (stC s) 71 (0, 0))
def HitE (L : Nat → Sw) (len : Nat) (x : Int) (e : Ending) : Prop := ∃ s, HitIs L len x s ∧ e = .returned (.tuple #[stV s, .bool true])
set_option maxRecDepth 100000 in
set_option maxHeartbeats 4000000 in
theorem stretchAt_no (a : Option Addr) (len cap : Nat) (L : Nat → Sw) (x : Int) (w : World) (hA : SwsAt w.heap.size w a len L) (hlm : len ≤ maxLen) (hno : ¬ (PlanIs L len ∧ InDay x)) :
    Calls Tryd.prog 41 #[.slice a len cap, .int .i64 x] w fun e w' => e = .returned (.tuple #[stV ⟨0, 0, 0⟩, .bool false]) ∧ Below w.heap.size w w' := by
  have hb0 := ((Below.refl _ w).alloc (Nat.le_refl _) (.cells #[.int .i64 x] 3)).alloc (by simp) (.cells #[.int .i64 0, .int .i64 0, .int .i64 0] 71)
  have hzx := heap_old (heap_alloc_new w (.cells #[.int .i64 x] 3)) (.cells #[.int .i64 0, .int .i64 0, .int .i64 0] 71)
  have hzr := heap_alloc_new (w.alloc (.cells #[.int .i64 x] 3)) (.cells #[.int .i64 0, .int .i64 0, .int .i64 0] 71)
  rw [World.size_alloc] at hzr
  have hsz : ((w.alloc (.cells #[.int .i64 x] 3)).alloc (.cells #[.int .i64 0, .int .i64 0, .int .i64 0] 71)).heap.size = w.heap.size + 2 := by simp [World.size_alloc]
  have HCK := Lib.hid (checkPlan_any a len cap L _ ((hA.next hb0 (Nat.le_refl _) (Nat.le_refl _)).mono hb0.size) hlm)
  have HB0 := Lib.hid hb0
  have HZX := Lib.hid hzx
  have HZR := Lib.hid hzr
  have HSZ := Lib.hid hsz
  have HN := Lib.hid hno
  clear hb0 hzx hzr hsz hA hlm hno
  refine (callsIn_wide (n := 4)).1 ?_
  refine callsIn_of_wp_marks Tryd.func41 rfl trivial ?_ rfl
  simp only [Tryd.ntmps41, List.size_toArray, List.length_cons, List.length_nil, Nat.reduceAdd, Nat.reduceSub, Array.replicate_succ, Array.replicate_zero, List.push_toArray, List.append_toArray, List.nil_append, List.cons_append]
  gi_wp2
  refine wpIn_scope_straight (wpIn_seq ?_)
  gi_wp2_with fail
  refine ⟨trivial, ?_⟩
  refine (callsIn_wide.2 HCK.out).mono ?_
  rintro e w1 ⟨rfl, hB1⟩
  have hs1 := hB1.size
  rw [HSZ.out] at hs1
  have zx1 := (hB1.block w.heap.size (by rw [HSZ.out]; omega)).trans HZX.out
  have zr1 := (hB1.block (w.heap.size + 1) (by rw [HSZ.out]; omega)).trans HZR.out
  have hb1 := HB0.out.trans (hB1.mono HB0.out.size)
  have x0 : w1.cell? ⟨w.heap.size, 0, none⟩ = some (.int .i64 x) := cell_of_row _ _ 0 _ _ _ zx1
  obtain ⟨r0, r1, r2⟩ := cells3 zr1
  obtain ⟨f0, f1, f2⟩ := frozen3 zr1
  have HR := Lib.hid zr1
  have HB1 := Lib.hid hb1
  clear zx1 zr1 hb1 hB1 HZX HZR HB0
  by_cases hp : PlanIs L len
  · have HF := Lib.hid (isFrom_no (n := x) (a := 0) (b := 1439) (fun h => HN.out ⟨hp, h⟩) w1)
    rw [pErr_yes hp]
    clear hp
    gi_wp2_with (refine ⟨trivial, ?_⟩; gi_at_call 24; refine (callsIn_wide.2 HF.out).mono ?_; rintro e w' ⟨rfl, rfl⟩; clear HF)
    rw [Exit.noGoto_ret]
    refine ⟨_, results_sa (s := ⟨0, 0, 0⟩) (ok := false) rfl rfl (set3 HR.out _ _ _), rfl, set3_below HB1.out (by omega) _ _ _⟩
  · rw [pErr_no hp]
    clear hp
    gi_wp2
    refine ⟨trivial, ?_⟩
    gi_wp2
    rw [Exit.noGoto_ret]
    refine ⟨_, results_sa (s := ⟨0, 0, 0⟩) (ok := false) rfl rfl (set3 HR.out _ _ _), rfl, set3_below HB1.out (by omega) _ _ _⟩
set_option maxRecDepth 100000 in
set_option maxHeartbeats 4000000 in
theorem stretchAt_yes (a : Option Addr) (len cap : Nat) (L : Nat → Sw) (x : Int) (w : World) (hA : SwsAt w.heap.size w a len L) (hlm : len ≤ maxLen) (hp : PlanIs L len) (hd : InDay x) :
    Calls Tryd.prog 41 #[.slice a len cap, .int .i64 x] w fun e w' => HitE L len x e ∧ Below w.heap.size w w' := by
  have hb0 := ((Below.refl _ w).alloc (Nat.le_refl _) (.cells #[.int .i64 x] 3)).alloc (by simp) (.cells #[.int .i64 0, .int .i64 0, .int .i64 0] 71)
  have hzx := heap_old (heap_alloc_new w (.cells #[.int .i64 x] 3)) (.cells #[.int .i64 0, .int .i64 0, .int .i64 0] 71)
  have hzr := heap_alloc_new (w.alloc (.cells #[.int .i64 x] 3)) (.cells #[.int .i64 0, .int .i64 0, .int .i64 0] 71)
  rw [World.size_alloc] at hzr
  have hsz : ((w.alloc (.cells #[.int .i64 x] 3)).alloc (.cells #[.int .i64 0, .int .i64 0, .int .i64 0] 71)).heap.size = w.heap.size + 2 := by simp [World.size_alloc]
  have hck := checkPlan_any a len cap L _ ((hA.next hb0 (Nat.le_refl _) (Nat.le_refl _)).mono hb0.size) hlm
  rw [pErr_yes hp] at hck
  have HCK := Lib.hid hck
  have hd0 := hd.1
  have hd1 := hd.2
  have HF := Lib.hid (fun W : World => isFrom_yes (n := x) (a := 0) (b := 1439) hd W)
  have HB0 := Lib.hid hb0
  have HZX := Lib.hid hzx
  have HZR := Lib.hid hzr
  have HSZ := Lib.hid hsz
  have HA := Lib.hid hA
  have HP := Lib.hid hp
  clear hb0 hzx hzr hsz hA hlm hck hp hd
  refine (callsIn_wide (n := 4)).1 ?_
  refine callsIn_of_wp_marks Tryd.func41 rfl trivial ?_ rfl
  simp only [Tryd.ntmps41, List.size_toArray, List.length_cons, List.length_nil, Nat.reduceAdd, Nat.reduceSub, Array.replicate_succ, Array.replicate_zero, List.push_toArray, List.append_toArray, List.nil_append, List.cons_append]
  gi_wp2
  refine wpIn_scope_straight (wpIn_seq ?_)
  gi_wp2_with fail
  refine ⟨trivial, ?_⟩
  refine (callsIn_wide.2 HCK.out).mono ?_
  rintro e w1 ⟨rfl, hB1⟩
  have hs1 := hB1.size
  rw [HSZ.out] at hs1
  have zx1 := (hB1.block w.heap.size (by rw [HSZ.out]; omega)).trans HZX.out
  have zr1 := (hB1.block (w.heap.size + 1) (by rw [HSZ.out]; omega)).trans HZR.out
  have hb1 := HB0.out.trans (hB1.mono HB0.out.size)
  have x0 : w1.cell? ⟨w.heap.size, 0, none⟩ = some (.int .i64 x) := cell_of_row _ _ 0 _ _ _ zx1
  have HR := Lib.hid zr1
  have HX := Lib.hid zx1
  have HB1 := Lib.hid hb1
  clear zr1 zx1 hb1 hB1 HZX HZR HB0 HCK
  gi_wp2_with (refine ⟨trivial, ?_⟩; gi_at_call 24; refine (callsIn_wide.2 (HF.out _)).mono ?_; rintro e w' ⟨rfl, rfl⟩; clear HF)
  refine wpIn_label ?_
  gi_wp2_with (refine ⟨trivial, ?_⟩; gi_at_call 33; refine (stretchesOf_in _ _ _ _ _).mono ?_; rintro e w' ⟨rfl, rfl⟩)
  have xx := heap_old (heap_old HX.out (.cells #[.int .i64 0, .int .i64 0, .int .i64 0] 71)) (.cells #[.slice a len cap] 22)
  have xr := heap_old (heap_old HR.out (.cells #[.int .i64 0, .int .i64 0, .int .i64 0] 71)) (.cells #[.slice a len cap] 22)
  have xf := heap_old (heap_alloc_new w1 (.cells #[.int .i64 0, .int .i64 0, .int .i64 0] 71)) (.cells #[.slice a len cap] 22)
  have xb := heap_alloc_new (w1.alloc (.cells #[.int .i64 0, .int .i64 0, .int .i64 0] 71)) (.cells #[.slice a len cap] 22)
  rw [World.size_alloc] at xb
  have xsz : ((w1.alloc (.cells #[.int .i64 0, .int .i64 0, .int .i64 0] 71)).alloc (.cells #[.slice a len cap] 22)).heap.size = w1.heap.size + 2 := by simp [World.size_alloc]
  have xw : Below w.heap.size w ((w1.alloc (.cells #[.int .i64 0, .int .i64 0, .int .i64 0] 71)).alloc (.cells #[.slice a len cap] 22)) := (HB1.out.alloc HB1.out.size _).alloc (by have := HB1.out.size; simp; omega) _
  obtain ⟨X, hX⟩ : ∃ X, (w1.alloc (.cells #[.int .i64 0, .int .i64 0, .int .i64 0] 71)).alloc (.cells #[.slice a len cap] 22) = X := ⟨_, rfl⟩
  rw [hX] at xx xr xf xb xsz xw ⊢
  have hA2 : SwsAt w.heap.size X a len L := HA.out.next xw (Nat.le_refl _) (Nat.le_refl _)
  clear hX x0 HX HR HB1
  refine wpIn_rangeFunc_mine (gf := 43) (lb := #[.pointer (some ⟨w1.heap.size + 1, 0, none⟩)]) rfl (enters_of Tryd.func43 (by kernel_rfl) rfl)
    (strs L len) encS (fun j => j = w1.heap.size) 0 39
    (str_seq (4 - 1) (by omega) (w1.heap.size + 1) w.heap.size a len cap L HP.out _ X (fun j hj => ⟨by omega, by omega, by omega⟩) xw.size xb hA2) (fun _ => rfl) (fun j hj => by omega)
    (fun pre W => (W.heap[w.heap.size]? = some (.cells #[.int .i64 x] 3 (0, 0)) ∧ W.heap[w.heap.size + 1]? = some (.cells (stC ⟨0, 0, 0⟩) 71 (0, 0)) ∧ W.heap[w1.heap.size]? = some (.cells (stC ⟨0, 0, 0⟩) 71 (0, 0)) ∧ NoEnd x pre) ∧ Below w.heap.size w W)
    (fun pre W => (StopS x w1.heap.size pre W ∧ W.heap[w.heap.size + 1]? = some (.cells (stC ⟨0, 0, 0⟩) 71 (0, 0))) ∧ Below w.heap.size w W)
    (fun pre => ((steady_block _ _ _ _ (by omega)).and ((steady_block _ _ _ _ (by omega)).and ((steady_block _ _ _ _ (by omega)).and (steady_pure _ _ _)))).and (steady_below _ _ _ _ (by omega) (Nat.le_refl _)))
    (fun pre => Steady.and (Steady.and (fun X' Y row hs hg hr => let ⟨q, s, e1, e2, e3, e4⟩ := hs; ⟨q, s, e1, e2, e3, steady_block X.heap.size (X.heap.size + 2) _ _ (by omega) X' Y row e4 hg hr⟩) (steady_block _ _ _ _ (by omega))) (steady_below _ _ _ _ (by omega) (Nat.le_refl _)))
    ⟨⟨xx, xr, xf, fun z hz => by cases hz⟩, xw⟩
    (fun pre s a₁ W => ∃ Bx, X.heap.size + 3 ≤ Bx ∧ W.heap[Bx]? = some (.cells (stC s) 71 (0, 0)) ∧ a₁ = { tmps := #[.slice a len cap, .int .i64 x, undef, .pointer (some ⟨w.heap.size, 0, none⟩), .pointer (some ⟨w.heap.size + 1, 0, none⟩), .bool false, .pointer (some ⟨w1.heap.size, 0, none⟩), .pointer (some ⟨Bx, 0, none⟩), .slice a len cap, .int .i64 0, .bool false, .bool false, .int .i64 x, .bool true, .bool false, .bool false, undef, .slice a len cap, .func (.func 43) #[] #[.pointer (some ⟨w1.heap.size + 1, 0, none⟩)], stV s, undef, undef, undef, undef, undef, undef], defers := [] })
    (fun pre s a₁ X' Y row hs hg hr => let ⟨Bx, e1, e2, e3⟩ := hs; ⟨Bx, e1, steady_block X.heap.size (X.heap.size + 2) _ _ (by omega) X' Y row e2 hg hr, e3⟩)
    ?assign ?body ?done ?stop
  case assign =>
    intro l pre s W K hsz hpre hI hK
    unfold encS
    gi_wp2
    refine hK _ _ ((Only.refl _ _ _).alloc hsz _) ((KT.refl _ _).alloc _) ⟨⟨heap_old hI.1.1 _, heap_old hI.1.2.1 _, heap_old hI.1.2.2.1 _, hI.1.2.2.2⟩, hI.2.alloc hI.2.size _⟩ ⟨W.heap.size, hsz, heap_alloc_new W _, rfl⟩
  case body =>
    rintro l pre s a₁ W hsz hpre ⟨⟨ix, ir, if0, hno⟩, hB⟩ ⟨Bx, hBx, hbx, rfl⟩
    obtain ⟨sb, se, sd⟩ := s
    have c0 : W.cell? ⟨w.heap.size, 0, none⟩ = some (.int .i64 x) := cell_of_row _ _ 0 _ _ _ ix
    obtain ⟨k0, k1, k2⟩ := cells3 hbx
    obtain ⟨j0, j1, j2⟩ := cells3 if0
    obtain ⟨f0, f1, f2⟩ := frozen3 if0
    have HIX := Lib.hid ix
    have HIR := Lib.hid ir
    have HIF := Lib.hid if0
    have HNO := Lib.hid hno
    have HB := Lib.hid hB
    clear ix ir if0 hno hB hbx xx xr xf xb xw hA2
    by_cases hlt : x < se
    · gi_wp2
      refine ⟨rfl, ?_, ⟨⟨pre, ⟨sb, se, sd⟩, rfl, HNO.out, hlt, set3 HIF.out _ _ _⟩, (set3_other (by omega) _ _ _).trans HIR.out⟩, set3_below HB.out (by omega) _ _ _⟩
      exact ⟨by simp, fun k hk hs => set3_other hs _ _ _⟩
    · gi_wp2
      exact ⟨Only.refl _ _ _, KT.refl _ _, ⟨HIX.out, HIR.out, HIF.out, HNO.out.snoc (by show ¬ x < se; omega)⟩, HB.out⟩
  case done =>
    rintro D W hD ⟨⟨ix, ir, if0, hno⟩, hB⟩ hK
    exact (strs_last L len x (by omega) hno).elim
  case stop =>
    rintro D pre W hD hpre ⟨⟨⟨q, s, rfl, hno, hlt, hf⟩, hr⟩, hB⟩ hK
    have hhit := strs_hit HP.out hpre hd0 hno hlt
    obtain ⟨sb, se, sd⟩ := s
    obtain ⟨k0, k1, k2⟩ := cells3 hf
    obtain ⟨j0, j1, j2⟩ := cells3 hr
    obtain ⟨f0, f1, f2⟩ := frozen3 hr
    have HR2 := Lib.hid hr
    have HB := Lib.hid hB
    have HK := Lib.hid hK
    have HH := Lib.hid (show HitIs L len x ⟨sb, se, sd⟩ from hhit)
    have HXS := Lib.hid xw.size
    clear hf hr hB hK hhit hno hpre xx xr xf xb xw hA2
    gi_wp2
    have hset := set3 HR2.out (.int .i64 sb) (.int .i64 se) (.int .i64 sd)
    have hk2 := (set3_other (Z := W) (B := w.heap.size + 1) (C := D) (by omega) (.int .i64 sb) (.int .i64 se) (.int .i64 sd)).trans HK.out
    refine ⟨by simp, .inl ⟨_, _, rfl, run_takeDeferred hk2, ?_⟩⟩
    refine ⟨_, results_sa (s := ⟨sb, se, sd⟩) (ok := true) rfl rfl ((World.putObj_heap_other (by omega)).trans hset), ⟨_, HH.out, rfl⟩, ?_⟩
    exact (set3_below HB.out (by omega) _ _ _).trans (belowK_b (w := w) (Nat.le_refl _) _ D _ _ (by omega) hk2 rfl rfl)
end Go.Proofs.YtmbimnphdhmapaaDoor
