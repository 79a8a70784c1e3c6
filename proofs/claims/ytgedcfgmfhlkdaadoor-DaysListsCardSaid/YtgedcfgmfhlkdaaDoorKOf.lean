/- The contract of civil.Of. -/
import Derived.Test.YtgedcfgmfhlkdaaDoorKDay
import Derived.Test.YtgedcfgmfhlkdaaDoorKLift
set_option linter.unusedVariables false
set_option linter.unusedSimpArgs false
namespace Go.Proofs.YtgedcfgmfhlkdaaDoor
open Go.RowKit Go.Shelf
attribute [local go_sem] Oper.semAt_some
abbrev dateV (y m d : Int) : Value := .agg #[.int .i64 y, .int .i64 m, .int .i64 d]
theorem held_step {P : Program} {ops : Array Oper} {Q : Exit → Act → World → Prop} {S : World → Prop} {i : Nat} {o : Oper} {fuel : Nat} {listed : Array Bool} {a : Act} {w w' : World} (hi : ops[i]? = some o) (hr : Region.ready .any ops listed = [i]) (hg : o.guard = none) (hrun : (execOp a.eval o).run P w = .ok .skip w') (hS : S w')
    (h : wpAnyH P .any ops (onlyNormal Q) S fuel (listed.setIfInBounds i true) (a.put o.dst undef) w') : wpAnyH P .any ops (onlyNormal Q) S (fuel + 1) listed a w := by
  refine held_one hi hr hg ?_
  unfold Oper.wp
  rw [hrun]; exact ⟨hS, h⟩
theorem cells_kept {X Y : World} {row : Option Nat} {b : Nat} {cs : Array Value} {t : TypeId} {fr : Nat × Nat} (h : X.heap[b]? = some (.cells cs t fr)) (hg : X.grownBy Y row) (hr : ∀ r, row = some r → ∃ o : Obj, X.heap[r]? = some o ∧ o.isCells = false) : Y.heap[b]? = some (.cells cs t fr) :=
  (hg.block b (Array.getElem?_eq_some_iff.1 h).1 (fun e => by obtain ⟨o, ho, hc⟩ := hr b e.symm; rw [h] at ho; cases ho; cases hc)).trans h
theorem results_date {y m d e : Int} {b : Nat} {tmps : Array Value} {w : World} (h2 : tmps.getD 2 undef = .pointer (some ⟨b, 0, none⟩)) (h3 : tmps.getD 3 undef = .int .i64 e)
    (hb : w.heap[b]? = some (.cells #[.int .i64 y, .int .i64 m, .int .i64 d] 39 (0, 0))) : (results Tryd.f56 tmps).run Tryd.prog w = .ok (.tuple #[dateV y m d, .int .i64 e]) w := by
  have c0 : w.cell? ⟨b, 0, none⟩ = some (.int .i64 y) := cell_of_row w b 0 _ _ _ hb
  have c1 : w.cell? ⟨b, 1, none⟩ = some (.int .i64 m) := cell_of_row w b 1 _ _ _ hb
  have c2 : w.cell? ⟨b, 2, none⟩ = some (.int .i64 d) := cell_of_row w b 2 _ _ _ hb
  simp only [Array.getD_eq_getD_getElem?] at h2 h3
  simp [results, Tryd.results56, go_sem, h2, h3, c0, c1, c2, dateV]
/-- Between two rounds: what the cells of Of hold. -/
def OfI (b2 : Nat) (y rest : Int) (q : List Mon) (W : World) : Prop :=
  ∃ mm dd : Int, W.heap[b2 + 1]? = some (.cells #[.int .i64 y, .int .i64 mm, .int .i64 dd] 39 (0, 0)) ∧ Boxed W (b2 + 2) 3 (.int .i64 rest) ∧
    W.heap[b2]? = some (.cells #[.int .i64 0, .int .i64 0, .int .i64 0] 39 (0, 0)) ∧ (∀ x ∈ q, bef y x.1 ≤ rest) ∧ (∀ p (x : Mon), q = p ++ [x] → mm = x.1 ∧ dd = rest - bef y x.1 + 1)
theorem OfI.kept {b2 : Nat} {y rest : Int} {q : List Mon} {X Y : World} {row : Option Nat} (h : OfI b2 y rest q X) (hg : X.grownBy Y row) (hr : ∀ r, row = some r → ∃ o : Obj, X.heap[r]? = some o ∧ o.isCells = false) : OfI b2 y rest q Y := by
  obtain ⟨mm, dd, h1, h2, h3, h4, h5⟩ := h
  exact ⟨mm, dd, cells_kept h1 hg hr, cells_kept h2 hg hr, cells_kept h3 hg hr, h4, h5⟩
theorem of_no (n : Int) (w : World) (hT : Tabs w) (h : ¬ (0 ≤ n ∧ n ≤ 2932896)) :
    Calls Tryd.prog 56 #[.int .i64 n] w fun e w' => e = .returned (.tuple #[dateV 0 0 0, .int .i64 60]) ∧ Below w.heap.size w w' := by
  have hd : decide (0 ≤ n ∧ n ≤ 2932896) = false := decide_eq_false h
  refine (callsIn_wide (n := 4)).1 ?_
  refine callsIn_of_wp_marks Tryd.func56 rfl trivial ?_ rfl
  simp only [Tryd.ntmps56, List.size_toArray, List.length_cons, List.length_nil, Nat.reduceAdd, Nat.reduceSub, Array.replicate_succ, Array.replicate_zero, List.push_toArray, List.append_toArray, List.nil_append, List.cons_append]
  gi_wp2
  refine wpIn_scope_straight (wpIn_seq ?_)
  gi_wp2_with (refine ⟨trivial, ?_⟩; gi_at_call 52; refine (callsIn_wide.2 (isDay_any _ _)).mono ?_; rintro e w' ⟨rfl, rfl⟩; rw [hd])
  rw [Exit.noGoto_ret]
  exact ⟨_, results_date rfl rfl (heap_alloc_new w _), rfl, (Below.refl _ w).alloc (Nat.le_refl _) _⟩
set_option maxRecDepth 100000 in
set_option maxHeartbeats 2000000 in
theorem of_yes (n : Int) (w : World) (hT : Tabs w) (h0 : 0 ≤ n) (h1 : n ≤ 2932896) :
    Calls Tryd.prog 56 #[.int .i64 n] w fun e w' => (∃ y m d, IsDate n y m d ∧ e = .returned (.tuple #[dateV y m d, .int .i64 0])) ∧ Below w.heap.size w w' := by
  have hd : decide (0 ≤ n ∧ n ≤ 2932896) = true := decide_eq_true ⟨h0, h1⟩
  have HD := Lib.hid hd
  clear hd
  refine (callsIn_wide (n := 4)).1 ?_
  refine callsIn_of_wp_marks Tryd.func56 rfl trivial ?_ rfl
  simp only [Tryd.ntmps56, List.size_toArray, List.length_cons, List.length_nil, Nat.reduceAdd, Nat.reduceSub, Array.replicate_succ, Array.replicate_zero, List.push_toArray, List.append_toArray, List.nil_append, List.cons_append]
  gi_wp2
  refine wpIn_scope_straight (wpIn_seq ?_)
  gi_wp2_with (first | (refine ⟨trivial, ?_⟩; gi_at_call 52; refine (callsIn_wide.2 (isDay_any _ _)).mono ?_; rintro e w' ⟨rfl, rfl⟩; rw [HD.out]) | (refine ⟨trivial, ?_⟩; gi_at_call 68; refine (callsIn_wide.2 (yearOf_any n h0 h1 _)).mono ?_; rintro e w' ⟨⟨y, hy0, hy1, hya, hyb, rfl⟩, rfl⟩; refine Hid.out ?_))
  refine Lib.hid ?_
  have hda := daysAhead_any y (by omega) (by omega)
  obtain ⟨L, hL⟩ : ∃ L, L = ahead y := ⟨_, rfl⟩
  have hy2 := ahead_succ (y := y) (by omega)
  have hlb : 0 ≤ L ∧ L ≤ 2932896 := by
    have := ahead_le (a := 1970) (b := y) hy0
    rw [ahead_1970] at this
    omega
  have hlp := lp_le y
  have hrest : 0 ≤ n - L ∧ n - L ≤ 366 := by omega
  rw [← hL] at hda
  have HL := Lib.hid hL
  have HDA := Lib.hid hda
  clear hda hL
  gi_wp2_with (refine ⟨trivial, ?_⟩; gi_at_call 50; refine (callsIn_wide.2 (HDA.out _)).mono ?_; rintro e w' ⟨rfl, rfl⟩)
  obtain ⟨X, hX⟩ : ∃ X, (((w.alloc (.cells #[.int .i64 0, .int .i64 0, .int .i64 0] 39)).alloc (.cells #[.int .i64 y, .int .i64 0, .int .i64 0] 39)).alloc (.cells #[.int .i64 (n - L)] 3)) = X := ⟨_, rfl⟩
  have d1 : X.heap[w.heap.size]? = some (.cells #[.int .i64 0, .int .i64 0, .int .i64 0] 39 (0, 0)) := by
    rw [← hX]; exact heap_old (heap_old (heap_alloc_new w _) _) _
  have d2 : X.heap[w.heap.size + 1]? = some (.cells #[.int .i64 y, .int .i64 0, .int .i64 0] 39 (0, 0)) := by
    have := heap_alloc_new (w.alloc (.cells #[.int .i64 0, .int .i64 0, .int .i64 0] 39)) (.cells #[.int .i64 y, .int .i64 0, .int .i64 0] 39)
    rw [World.size_alloc] at this
    rw [← hX]; exact heap_old this _
  have d3 : Boxed X (w.heap.size + 2) 3 (.int .i64 (n - L)) := by
    have := Boxed.new ((w.alloc (.cells #[.int .i64 0, .int .i64 0, .int .i64 0] 39)).alloc (.cells #[.int .i64 y, .int .i64 0, .int .i64 0] 39)) 3 (.int .i64 (n - L))
    simp only [World.size_alloc] at this
    rw [← hX]; exact this
  have d4 : Below w.heap.size w X := by rw [← hX]; exact (((Below.refl _ w).alloc (Nat.le_refl _) _).alloc (by simp) _).alloc (by simp; omega) _
  have d5 : X.heap.size = w.heap.size + 3 := by rw [← hX]; simp
  rw [hX, show w.heap.size + 1 + 1 = w.heap.size + 2 from rfl]
  have HI := Lib.hid (show OfI w.heap.size y (n - L) [] X from ⟨0, 0, d2, d3, d1, by simp, by simp⟩)
  have HB := Lib.hid d4
  have cy : X.cell? ⟨w.heap.size + 1, 0, none⟩ = some (.int .i64 y) := cell_of_row X (w.heap.size + 1) 0 _ _ _ d2
  clear d1 d2 d3 d4 hX HD HDA
  refine wpIn_label ?_
  gi_wp2_with (refine ⟨trivial, ?_⟩; gi_at_call 51; refine (monthsOf_in _ _ _).mono ?_; rintro e w' ⟨rfl, rfl⟩)
  have bY := Boxed.new X 3 (.int .i64 y)
  rw [d5] at bY
  obtain ⟨X2, hX2⟩ : ∃ X2, X.alloc (.cells #[.int .i64 y] 3) = X2 := ⟨_, rfl⟩
  have hz2 : X2.heap.size = w.heap.size + 4 := by rw [← hX2]; simp; omega
  have hI2 : OfI w.heap.size y (n - L) [] X2 := by rw [← hX2]; exact HI.out.kept (World.grownBy_alloc X _ none) (fun r e => by cases e)
  have hB2 : Below w.heap.size w X2 := by rw [← hX2]; exact HB.out.alloc HB.out.size _
  have hT2 : Tabs X2 := hT.next hB2
  rw [hX2] at bY ⊢
  clear HI HB cy hX2
  have hhb := Lib.hid (And.intro hy0 (And.intro hy1 (And.intro hya hyb)))
  have hw0 := hT.lt
  clear hya hyb hT
  refine wpIn_rangeFunc_ownG rfl (by omega) (gf := 67) (lb := #[.pointer (some ⟨w.heap.size + 3, 0, none⟩)]) rfl trivial (enters_of Tryd.func67 (by kernel_rfl) rfl)
    (months_stopsK _ (by omega) (w.heap.size + 3) w.heap.size y X2 hw0 (by omega) (by omega) bY.cell hT2) KM.trans (kmB (by omega) (by omega)) (Below.refl _ _) (fun _ => rfl)
    (fun pre W => OfI w.heap.size y (n - L) pre W ∧ Below w.heap.size w W)
    (fun c pre W => (∃ q x, pre = q ++ [x] ∧ n - L < bef y x.1 ∧ OfI w.heap.size y (n - L) q W ∧ c = .exit 0) ∧ Below w.heap.size w W)
    (OwnFrom.and (Own.from (fun s A B row hs hg hr => hs.kept hg hr) _) (ownFrom_below (Nat.le_refl _) (by omega)))
    (fun c => OwnFrom.and (Own.from (fun s A B row hs hg hr => let ⟨q, x, e1, e2, h, e3⟩ := hs; ⟨q, x, e1, e2, h.kept hg hr, e3⟩) _) (ownFrom_below (Nat.le_refl _) (by omega)))
    ⟨hI2, hB2⟩
    (fun x => { tmps := #[.int .i64 n, undef, .pointer (some ⟨w.heap.size, 0, none⟩), .int .i64 0, .pointer (some ⟨w.heap.size + 1, 0, none⟩), .pointer (some ⟨w.heap.size + 2, 0, none⟩), .int .i64 x.1, .int .i64 (bef y x.1), .int .i64 n, .bool true, .bool false, undef, .int .i64 n, .int .i64 y, .agg #[.int .i64 y, .int .i64 0, .int .i64 0], .int .i64 n, .pointer (some ⟨w.heap.size + 1, 0, none⟩), .int .i64 y, .int .i64 L, .int .i64 (n - L), .pointer (some ⟨w.heap.size + 1, 0, none⟩), .int .i64 y, .func (.func 67) #[] #[.pointer (some ⟨w.heap.size + 3, 0, none⟩)], .int .i64 x.1, .int .i64 (bef y x.1), undef, undef, undef, undef, undef, undef, undef, undef, undef, undef, undef], defers := [] }) ?assign ?body ?done ?stop
  case assign =>
    intro l x W K hK
    unfold encM
    gi_wp2
    exact hK
  case body =>
    rintro l pre x W ⟨hI, hB⟩ hlt
    have hx := x.2
    have hbb := bef_bounds (y := y) (m := x.1) (by omega) (by omega)
    have HI := Lib.hid hI
    have HB := Lib.hid hB
    obtain ⟨mm, dd, h1, h2, h3, h4, h5⟩ := hI
    have hbc := h2.cell
    have g1 : W.cell? ⟨w.heap.size + 1, 1, none⟩ = some (.int .i64 mm) := cell_of_row W (w.heap.size + 1) 1 _ _ _ h1
    have g2 : W.cell? ⟨w.heap.size + 1, 2, none⟩ = some (.int .i64 dd) := cell_of_row W (w.heap.size + 1) 2 _ _ _ h1
    have f1 := frozen_of_row W (w.heap.size + 1) 1 _ _ h1
    have f2 := frozen_of_row W (w.heap.size + 1) 2 _ _ h1
    have H1 := Lib.hid h1
    have H2 := Lib.hid h2
    have H3 := Lib.hid h3
    have H4 := Lib.hid h4
    obtain ⟨bx, hbe⟩ : ∃ b, b = bef y x.1 := ⟨_, rfl⟩
    rw [← hbe] at hbb ⊢
    have HBE := Lib.hid hbe
    clear hB hbe hT2 bY h1 h2 h3 h4 h5 hI2 hB2
    by_cases hgt : n - L < bx
    · have hgd : decide (n - L < bx) = true := decide_eq_true hgt
      gi_wp2
      exact ⟨KeepsFrom.refl _ _, ⟨pre, x, rfl, by rw [← HBE.out]; exact hgt, HI.out, rfl⟩, HB.out⟩
    · have hgd : decide (n - L < bx) = false := decide_eq_false hgt
      gi_wp2
      have hmx : Tryd.prog.follows .mixedOrders = true := by kernel_rfl
      have hw1 : IntKind.i64.wrap (n - L - bx) = n - L - bx := by simp only [IntKind.wrap_i64, wrap64]; omega
      have hw2 : IntKind.i64.wrap (n - L - bx + 1) = n - L - bx + 1 := by simp only [IntKind.wrap_i64, wrap64]; omega
      have hbox := H2.out
      refine regionIn_held (fun X => Boxed X (w.heap.size + 2) 3 (.int .i64 (n - L))) hmx (by kernel_rfl) ?_
      refine held_take (i := 0) (v := .int .i64 x.1) rfl (by kernel_rfl) (by kernel_rfl) (by kernel_rfl) rfl (fun X hX => by simp [execOp, go_sem]) hbox ?_
      refine held_take (i := 1) (v := .int .i64 (n - L)) rfl (by kernel_rfl) (by kernel_rfl) (by kernel_rfl) rfl (fun X hX => by have := hX.cell; simp [execOp, go_sem, this]) hbox ?_
      refine held_take (i := 2) (v := .int .i64 bx) rfl (by kernel_rfl) (by kernel_rfl) (by kernel_rfl) rfl (fun X hX => by simp [execOp, go_sem]) hbox ?_
      refine held_take (i := 3) (v := .int .i64 (n - L - bx)) rfl (by kernel_rfl) (by kernel_rfl) (by kernel_rfl) rfl (fun X hX => by simp [execOp, go_sem, hw1]) hbox ?_
      refine held_take (i := 4) (v := .int .i64 (n - L - bx + 1)) rfl (by kernel_rfl) (by kernel_rfl) (by kernel_rfl) rfl (fun X hX => by simp [execOp, go_sem, hw2]) hbox ?_
      refine held_take (i := 5) (v := .pointer (some ⟨w.heap.size + 1, 1, none⟩)) rfl (by kernel_rfl) (by kernel_rfl) (by kernel_rfl) rfl (fun X hX => by simp [execOp, go_sem]) hbox ?_
      have q1 : Boxed (W.drew.setCell ⟨w.heap.size + 1, 1, none⟩ (.int .i64 x.1)) (w.heap.size + 2) 3 (.int .i64 (n - L)) := (heap_setCell_other W.drew ⟨w.heap.size + 1, 1, none⟩ (w.heap.size + 2) _ (by simp)).trans hbox
      have q2 : Boxed ((W.drew.setCell ⟨w.heap.size + 1, 1, none⟩ (.int .i64 x.1)).setCell ⟨w.heap.size + 1, 2, none⟩ (.int .i64 (n - L - bx + 1))) (w.heap.size + 2) 3 (.int .i64 (n - L)) := (heap_setCell_other _ ⟨w.heap.size + 1, 2, none⟩ (w.heap.size + 2) _ (by simp)).trans q1
      refine held_step (i := 6) (w' := W.drew.setCell ⟨w.heap.size + 1, 1, none⟩ (.int .i64 x.1)) rfl (by kernel_rfl) rfl (by simp [execOp, go_sem, g1, f1]) q1 ?_
      refine held_take (i := 7) (v := .pointer (some ⟨w.heap.size + 1, 2, none⟩)) rfl (by kernel_rfl) (by kernel_rfl) (by kernel_rfl) rfl (fun X hX => by simp [execOp, go_sem]) q1 ?_
      refine held_step (i := 8) (w' := (W.drew.setCell ⟨w.heap.size + 1, 1, none⟩ (.int .i64 x.1)).setCell ⟨w.heap.size + 1, 2, none⟩ (.int .i64 (n - L - bx + 1))) rfl (by kernel_rfl) rfl (by simp [execOp, go_sem, g2, f2]) q2 ?_
      refine held_done (by kernel_rfl) ?_ _
      show KeepsFrom _ _ _ ∧ KM _ _ _ _ ∧ OfI _ _ _ _ _ ∧ Below _ _ _
      have e1 := HBE.out
      refine ⟨((KeepsOthers.drew W).trans ((KeepsOthers.setCell _ _ _).trans (KeepsOthers.setCell _ _ _))).from _, ⟨(heap_setCell_other _ ⟨w.heap.size + 1, 2, none⟩ (w.heap.size + 3) _ (by simp)).trans (heap_setCell_other W.drew ⟨w.heap.size + 1, 1, none⟩ (w.heap.size + 3) _ (by simp)), ((Below.refl w.heap.size W).drew.setCell (p := ⟨w.heap.size + 1, 1, none⟩) (by simp) _).setCell (p := ⟨w.heap.size + 1, 2, none⟩) (by simp) _⟩, ⟨x.1, n - L - bx + 1, ?_, q2, ?_, ?_, ?_⟩, (HB.out.drew.setCell (p := ⟨w.heap.size + 1, 1, none⟩) (by simp) _).setCell (p := ⟨w.heap.size + 1, 2, none⟩) (by simp) _⟩
      · exact heap_setCell_same _ (w.heap.size + 1) 2 _ _ _ (heap_setCell_same W.drew (w.heap.size + 1) 1 _ _ _ H1.out)
      · exact (heap_setCell_other _ ⟨w.heap.size + 1, 2, none⟩ w.heap.size _ (by simp)).trans ((heap_setCell_other W.drew ⟨w.heap.size + 1, 1, none⟩ w.heap.size _ (by simp)).trans H3.out)
      · intro z hz
        rcases List.mem_append.1 hz with h | h
        · exact H4.out z h
        · rw [List.mem_singleton.1 h, ← e1]; omega
      · intro p z hp
        obtain ⟨_, h⟩ := List.append_inj' hp rfl
        obtain rfl : x = z := by simpa using h
        exact ⟨rfl, by rw [e1]⟩
  case done =>
    rintro D ys W hD rfl ⟨⟨mm, dd, h1, h2, h3, h4, h5⟩, hB⟩ hK
    have hid : IsDate n y mm dd := by
      have e12 : (mon 11).1 = 12 := mon_val (by omega)
      obtain ⟨e1, e2⟩ := h5 (upto mon 11) (mon 11) (upto_succ mon 11)
      have hle := h4 (mon 11) (by rw [upto_succ mon 11]; simp)
      rw [e12] at e1 e2 hle
      have hb12 := bef_succ (y := y) (m := 12) (by omega) (by omega)
      have h13 := bef_13 y
      rw [show (12 : Int) + 1 = 13 from rfl] at hb12
      obtain ⟨q1, q2, q3, q4⟩ := hhb.out
      have hl := HL.out
      have := isDate_of (n := n) q1 q2 (show (1 : Int) ≤ 12 by omega) (by omega) (by omega) (by omega)
      rw [e1, e2, hl]; exact this
    have c0 : W.cell? ⟨w.heap.size + 1, 0, none⟩ = some (.int .i64 y) := cell_of_row W (w.heap.size + 1) 0 _ _ _ h1
    have c1 : W.cell? ⟨w.heap.size + 1, 1, none⟩ = some (.int .i64 mm) := cell_of_row W (w.heap.size + 1) 1 _ _ _ h1
    have c2 : W.cell? ⟨w.heap.size + 1, 2, none⟩ = some (.int .i64 dd) := cell_of_row W (w.heap.size + 1) 2 _ _ _ h1
    have r0 : W.cell? ⟨w.heap.size, 0, none⟩ = some (.int .i64 0) := cell_of_row W w.heap.size 0 _ _ _ h3
    have r1 : W.cell? ⟨w.heap.size, 1, none⟩ = some (.int .i64 0) := cell_of_row W w.heap.size 1 _ _ _ h3
    have r2 : W.cell? ⟨w.heap.size, 2, none⟩ = some (.int .i64 0) := cell_of_row W w.heap.size 2 _ _ _ h3
    have f0 := frozen_of_row W w.heap.size 0 _ _ h3
    have f1 := frozen_of_row W w.heap.size 1 _ _ h3
    have f2 := frozen_of_row W w.heap.size 2 _ _ h3
    have H3 := Lib.hid h3
    have HB := Lib.hid hB
    have HK := Lib.hid hK
    have HI := Lib.hid hid
    clear h1 h2 h3 h4 h5 hB hK hid hT2 bY hI2 hB2 hhb
    gi_wp2
    rw [Exit.noGoto_ret]
    have hrow := heap_setCell_same _ w.heap.size 2 _ _ (.int .i64 dd) (heap_setCell_same _ w.heap.size 1 _ _ (.int .i64 mm) (heap_setCell_same W w.heap.size 0 _ _ (.int .i64 y) H3.out))
    have hk2 := (heap_setCell_other ((W.setCell ⟨w.heap.size, 0, none⟩ (.int .i64 y)).setCell ⟨w.heap.size, 1, none⟩ (.int .i64 mm)) ⟨w.heap.size, 2, none⟩ D (.int .i64 dd) (by simp; omega)).trans ((heap_setCell_other (W.setCell ⟨w.heap.size, 0, none⟩ (.int .i64 y)) ⟨w.heap.size, 1, none⟩ D (.int .i64 mm) (by simp; omega)).trans ((heap_setCell_other W ⟨w.heap.size, 0, none⟩ D (.int .i64 y) (by simp; omega)).trans HK.out))
    have hb2 := ((HB.out.setCell (p := ⟨w.heap.size, 0, none⟩) (by simp) (.int .i64 y)).setCell (p := ⟨w.heap.size, 1, none⟩) (by simp) (.int .i64 mm)).setCell (p := ⟨w.heap.size, 2, none⟩) (by simp) (.int .i64 dd)
    refine ⟨by simp, .inl ⟨_, _, rfl, run_takeDeferred hk2, ?_⟩⟩
    exact ⟨_, results_date rfl rfl ((World.putObj_heap_other (by omega)).trans hrow), ⟨y, mm, dd, HI.out, rfl⟩, hb2.trans (belowK_b (w := w) (Nat.le_refl _) _ D _ _ (by omega) hk2 rfl rfl)⟩
  case stop =>
    rintro D c pre W hD ⟨k, hk, rfl⟩ ⟨⟨q, x, hq, hgt, ⟨mm, dd, h1, h2, h3, h4, h5⟩, rfl⟩, hB⟩ hK
    have hid : IsDate n y mm dd := by
      obtain ⟨j, rfl⟩ : ∃ j, k = j + 1 := ⟨k - 1, by
        cases k with
        | zero => simp [upto] at hq
        | succ j => rfl⟩
      rw [upto_succ] at hq
      obtain ⟨hq1, hq2⟩ := List.append_inj' hq rfl
      obtain rfl : mon j = x := by simpa using hq2
      rw [mon_val (by omega)] at hgt
      obtain ⟨i, rfl⟩ : ∃ i, j = i + 1 := ⟨j - 1, by
        cases j with
        | zero => rw [Int.natCast_zero, Int.zero_add, bef_one] at hgt; omega
        | succ j => rfl⟩
      rw [upto_succ] at hq1
      obtain ⟨e1, e2⟩ := h5 _ _ hq1.symm
      have hle := h4 (mon i) (by rw [← hq1]; simp)
      rw [mon_val (by omega)] at e1 e2 hle
      have hb := bef_succ (y := y) (m := i + 1) (by omega) (by omega)
      rw [Int.natCast_add] at hgt
      obtain ⟨q1, q2, q3, q4⟩ := hhb.out
      have hl := HL.out
      have hgt2 : n - L < bef y (i + 1 + 1) := hgt
      have := isDate_of (n := n) q1 q2 (show (1 : Int) ≤ i + 1 by omega) (by omega) (by omega) (by omega)
      rw [e1, e2, hl]; exact this
    have c0 : W.cell? ⟨w.heap.size + 1, 0, none⟩ = some (.int .i64 y) := cell_of_row W (w.heap.size + 1) 0 _ _ _ h1
    have c1 : W.cell? ⟨w.heap.size + 1, 1, none⟩ = some (.int .i64 mm) := cell_of_row W (w.heap.size + 1) 1 _ _ _ h1
    have c2 : W.cell? ⟨w.heap.size + 1, 2, none⟩ = some (.int .i64 dd) := cell_of_row W (w.heap.size + 1) 2 _ _ _ h1
    have r0 : W.cell? ⟨w.heap.size, 0, none⟩ = some (.int .i64 0) := cell_of_row W w.heap.size 0 _ _ _ h3
    have r1 : W.cell? ⟨w.heap.size, 1, none⟩ = some (.int .i64 0) := cell_of_row W w.heap.size 1 _ _ _ h3
    have r2 : W.cell? ⟨w.heap.size, 2, none⟩ = some (.int .i64 0) := cell_of_row W w.heap.size 2 _ _ _ h3
    have f0 := frozen_of_row W w.heap.size 0 _ _ h3
    have f1 := frozen_of_row W w.heap.size 1 _ _ h3
    have f2 := frozen_of_row W w.heap.size 2 _ _ h3
    have H3 := Lib.hid h3
    have HB := Lib.hid hB
    have HK := Lib.hid hK
    have HI := Lib.hid hid
    clear h1 h2 h3 h4 h5 hB hK hid hT2 bY hI2 hB2 hhb
    gi_wp2
    rw [Exit.noGoto_ret]
    have hrow := heap_setCell_same _ w.heap.size 2 _ _ (.int .i64 dd) (heap_setCell_same _ w.heap.size 1 _ _ (.int .i64 mm) (heap_setCell_same W w.heap.size 0 _ _ (.int .i64 y) H3.out))
    have hk2 := (heap_setCell_other ((W.setCell ⟨w.heap.size, 0, none⟩ (.int .i64 y)).setCell ⟨w.heap.size, 1, none⟩ (.int .i64 mm)) ⟨w.heap.size, 2, none⟩ D (.int .i64 dd) (by simp; omega)).trans ((heap_setCell_other (W.setCell ⟨w.heap.size, 0, none⟩ (.int .i64 y)) ⟨w.heap.size, 1, none⟩ D (.int .i64 mm) (by simp; omega)).trans ((heap_setCell_other W ⟨w.heap.size, 0, none⟩ D (.int .i64 y) (by simp; omega)).trans HK.out))
    have hb2 := ((HB.out.setCell (p := ⟨w.heap.size, 0, none⟩) (by simp) (.int .i64 y)).setCell (p := ⟨w.heap.size, 1, none⟩) (by simp) (.int .i64 mm)).setCell (p := ⟨w.heap.size, 2, none⟩) (by simp) (.int .i64 dd)
    refine ⟨by simp, .inl ⟨_, _, rfl, run_takeDeferred hk2, ?_⟩⟩
    exact ⟨_, results_date rfl rfl ((World.putObj_heap_other (by omega)).trans hrow), ⟨y, mm, dd, HI.out, rfl⟩, hb2.trans (belowK_b (w := w) (Nat.le_refl _) _ D _ _ (by omega) hk2 rfl rfl)⟩
end Go.Proofs.YtgedcfgmfhlkdaaDoor
