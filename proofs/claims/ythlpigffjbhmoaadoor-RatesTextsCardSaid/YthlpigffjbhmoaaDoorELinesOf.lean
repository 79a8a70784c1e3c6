/- The program's linesOf: lines with their numbers. -/
import Derived.Test.YthlpigffjbhmoaaDoorELines
import Derived.Test.YthlpigffjbhmoaaDoorELoop
set_option linter.unusedVariables false
set_option linter.unusedSimpArgs false
namespace Go.Proofs.YthlpigffjbhmoaaDoor
open Go.RowKit Go.Shelf
attribute [local go_sem] Oper.semAt_some
theorem Only.sub {B : Nat} {S S' : Nat → Prop} {X Y : World} (h : Only B S X Y) (hs : ∀ j, S j → S' j) : Only B S' X Y := ⟨h.size, fun k hk hn => h.block k hk (fun q => hn (hs k q))⟩
theorem lines_length : ∀ (n : Nat) (l : List UInt8), l.length ≤ n → (linesL l).length ≤ l.length := by
  intro n
  induction n with
  | zero => intro l hl; cases l with
    | nil => simp [linesL]
    | cons c r => simp at hl
  | succ n ih =>
    intro l hl
    rcases byte_split 10 l with ⟨_, h⟩ | ⟨a, b, rfl, h, _⟩
    · cases l with
      | nil => simp [linesL]
      | cons c r => rw [lines_none h (by simp)]; simp
    · rw [lines_app h]
      have := ih b (by simp at hl; omega)
      simp; omega
def encN (pre : List (List UInt8)) (x : List UInt8) : Array Value := #[.int .i64 ((pre.length : Int) + 1), strL x]
set_option maxRecDepth 100000 in
set_option maxHeartbeats 4000000 in
theorem linesOf_seq (n : Nat) (hn : 3 ≤ n) (Bt : Nat) (s : List UInt8) (hlen : s.length ≤ 1000000) (S : Nat → Prop) (w : World) (hS : ∀ j, S j → j < w.heap.size)
    (hbt : w.heap[Bt]? = some (.cells #[strL s] 9 (0, 0))) :
    SeqNew n Tryd.prog 42 #[.pointer (some ⟨Bt, 0, none⟩)] encN S (linesL s) w := by
  intro l J Jx W hl hW hJ hJx hY h0
  have hbt' := (hW.block Bt (Array.getElem?_eq_some_iff.1 hbt).1).trans hbt
  have ct : W.cell? ⟨Bt, 0, none⟩ = some (strL s) := cell_of_row _ Bt 0 _ _ _ hbt'
  have HLT := Lib.hid (show Bt < W.heap.size from (Array.getElem?_eq_some_iff.1 hbt').1)
  have HJ := Lib.hid hJ
  have HJX := Lib.hid hJx
  have HY := Lib.hid hY
  have HS := Lib.hid (fun j hj => Nat.lt_of_lt_of_le (hS j hj) hW.size)
  have HJ0 := Lib.hid h0
  have HLEN := Lib.hid hlen
  have HL := Lib.hid hl
  obtain ⟨W2, hW2⟩ : ∃ X, (W.alloc (.cells #[.func (.yield l) #[] #[]] 79)).alloc (.cells #[.int .i64 0] 3) = X := ⟨_, rfl⟩
  have hb2 : Below W.heap.size W W2 := by rw [← hW2]; exact ((Below.refl _ W).alloc (Nat.le_refl _) _).alloc (by simp) _
  have hs2 : W2.heap.size = W.heap.size + 2 := by rw [← hW2]; simp
  have y0 : W2.heap[W.heap.size]? = some (.cells #[.func (.yield l) #[] #[]] 79 (0, 0)) := by rw [← hW2]; exact heap_old (heap_alloc_new W _) _
  have y1 : W2.heap[W.heap.size + 1]? = some (.cells #[.int .i64 0] 3 (0, 0)) := by
    rw [← hW2]
    have := heap_alloc_new (W.alloc (.cells #[.func (.yield l) #[] #[]] 79)) (.cells #[.int .i64 0] 3)
    rwa [World.size_alloc] at this
  have hJ2 : J [] W2 := by rw [← hW2]; exact (hJ []).alloc ((hJ []).alloc h0 _) _
  have c1 : W2.cell? ⟨Bt, 0, none⟩ = some (strL s) := (hb2.cell (p := ⟨Bt, 0, none⟩) (Array.getElem?_eq_some_iff.1 hbt').1).trans ct
  obtain ⟨W3, hW3⟩ : ∃ X, W2.alloc (.cells #[strL s] 9) = X := ⟨_, rfl⟩
  have hs3 : W3.heap.size = W.heap.size + 3 := by rw [← hW3, World.size_alloc, hs2]
  have z0 : W3.heap[W.heap.size]? = some (.cells #[.func (.yield l) #[] #[]] 79 (0, 0)) := by rw [← hW3]; exact heap_old y0 _
  have z1 : W3.heap[W.heap.size + 1]? = some (.cells #[.int .i64 0] 3 (0, 0)) := by rw [← hW3]; exact heap_old y1 _
  have z2 : W3.heap[W.heap.size + 2]? = some (.cells #[strL s] 9 (0, 0)) := by
    rw [← hW3]
    have := heap_alloc_new W2 (.cells #[strL s] 9)
    rwa [hs2] at this
  have hJ3 : J [] W3 := by rw [← hW3]; exact (hJ []).alloc hJ2 _
  have hn1 : 1 ≤ n := by omega
  have hn2 : 1 ≤ n - 1 - 1 := by omega
  have HLN := Lib.hid (lines_length s.length s (Nat.le_refl _))
  have HBS := Lib.hid hbt'
  clear hJ hJx hY hS h0 hlen hl hbt hbt' ct y0 y1 hJ2 hb2
  rw [← hW2] at c1
  have HW2 := Lib.hid hW2
  have HW3 := Lib.hid hW3
  clear hW2 hW3
  simp only [List.size_toArray, List.push_toArray, List.append_toArray, List.nil_append, List.cons_append]
  refine callsIn_of_wp_marks Tryd.func42 rfl trivial ?_ rfl
  simp only [Tryd.ntmps42, List.size_toArray, List.length_cons, List.length_nil, Nat.reduceAdd, Nat.reduceSub, Array.replicate_succ, Array.replicate_zero, List.push_toArray, List.append_toArray, List.nil_append, List.cons_append]
  gi_wp2_with fail
  rw [HW2.out]
  refine ⟨trivial, ?_⟩
  refine (Lines_in _ s W2).mono ?_
  rintro e w' ⟨rfl, hw⟩
  obtain rfl : W3 = w' := HW3.out.symm.trans hw.symm
  rw [hs2]
  have HS3 := Lib.hid hs3
  clear HW2 HW3 hw c1 hs2 hs3
  gi_wp2_with fail
  refine wpIn_rangeFunc_box (gf := 55) (lb := #[.pointer (some ⟨W.heap.size + 2, 0, none⟩)]) rfl (enters_of Tryd.func55 (by kernel_rfl) rfl)
    (linesL s) encP (W.heap.size + 2) (by rw [HS3.out]; omega) (fun j => S j ∨ j = l ∨ j = W.heap.size + 1)
    (lines_seq (n - 1) (by omega) (W.heap.size + 2) s HLEN.out _ (fun j hj => by have := HL.out; rcases hj with q | q | q; have := HS.out j q; omega; omega; omega) W3 z2) (fun _ => rfl) (fun j hj => by rw [HS3.out]; have := HL.out; rcases hj with q | q | q; have := HS.out j q; omega; omega; omega)
    (fun pre X => J pre X ∧ X.heap[W.heap.size]? = some (.cells #[.func (.yield l) #[] #[]] 79 (0, 0)) ∧ X.heap[W.heap.size + 1]? = some (.cells #[.int .i64 pre.length] 3 (0, 0)))
    (fun pre X => Jx pre X)
    (fun pre => SteadyG.and (fun X Y row hs hg hr => HJ.out pre X Y row hs hg (fun r e => by have := hr r e; have := HS3.out; omega)) (SteadyG.and (steadyG_block _ _ _ (fun e => by have := HS3.out; omega)) (steadyG_block _ _ _ (fun e => by have := HS3.out; omega))))
    (fun pre X Y row hs hg hr => HJX.out pre X Y row hs hg (fun r e => by have := hr r e; have := HS3.out; omega))
    ⟨hJ3, z0, z1⟩
    (fun pre x a₁ X => a₁ = { tmps := #[.func (.yield l) #[] #[], .pointer (some ⟨Bt, 0, none⟩), .pointer (some ⟨W.heap.size, 0, none⟩), .pointer (some ⟨W.heap.size + 1, 0, none⟩), strL x, strL s, .func (.func 55) #[] #[.pointer (some ⟨W.heap.size + 2, 0, none⟩)], strL x, undef, undef, undef, undef, undef, undef, undef], defers := [] })
    (fun pre x a₁ X' Y row hs hg hr => hs)
    ?assign ?body ?done ?stop
  case assign =>
    intro l' pre x X K hsz hpre hI hK
    unfold encP
    gi_wp2
    exact hK _ _ (Only.refl _ _ _) hI rfl
  case body =>
    rintro l' pre x a₁ X hsz hpre ⟨hJp, q0, q1⟩ rfl
    have hlen : pre.length < 1000000 := by
      have h1 := hpre.length_le
      simp at h1
      have := HLN.out
      have := HLEN.out
      omega
    have hw1 : wrap64 ((pre.length : Int) + 1) = pre.length + 1 := wrap64_id (by omega) (by omega)
    have hsetY : ∀ v, (X.setCell ⟨W.heap.size + 1, 0, none⟩ v).heap[W.heap.size]? = some (.cells #[.func (.yield l) #[] #[]] 79 (0, 0)) := fun v => (heap_setCell_other X ⟨W.heap.size + 1, 0, none⟩ W.heap.size _ (by show W.heap.size ≠ W.heap.size + 1; omega)).trans q0
    have hset : (X.setCell ⟨W.heap.size + 1, 0, none⟩ (.int .i64 ((pre.length : Int) + 1))).heap[W.heap.size + 1]? = some (.cells #[.int .i64 ((pre.length : Int) + 1)] 3 (0, 0)) := heap_setCell_same X (W.heap.size + 1) 0 _ _ _ q1
    have hJ4 := HJ.out pre X (X.setCell ⟨W.heap.size + 1, 0, none⟩ (.int .i64 ((pre.length : Int) + 1))) (some (W.heap.size + 1)) hJp ⟨rfl, rfl, rfl, by simp, fun k _ hk => heap_setCell_other X ⟨W.heap.size + 1, 0, none⟩ k _ (fun e => hk (by rw [e]))⟩ (fun r e => by cases e; omega)
    obtain ⟨fn, tmps, assign, body, hyy, hR⟩ := HY.out pre x _ hpre (by rw [World.size_setCell]; have := HS3.out; omega) hJ4
    have d0 : X.cell? ⟨W.heap.size + 1, 0, none⟩ = some (.int .i64 pre.length) := cell_of_row _ _ 0 _ _ _ q1
    have f0 := frozen_of_row X _ 0 _ _ q1
    have e0 : (X.setCell ⟨W.heap.size + 1, 0, none⟩ (.int .i64 ((pre.length : Int) + 1))).cell? ⟨W.heap.size, 0, none⟩ = some (.func (.yield l) #[] #[]) := cell_of_row _ _ 0 _ _ _ (hsetY _)
    have e1 : (X.setCell ⟨W.heap.size + 1, 0, none⟩ (.int .i64 ((pre.length : Int) + 1))).cell? ⟨W.heap.size + 1, 0, none⟩ = some (.int .i64 ((pre.length : Int) + 1)) := cell_of_row _ _ 0 _ _ _ hset
    have HO : Hid (Only (W3.heap.size + 2) (fun j => S j ∨ j = l ∨ j = W.heap.size + 1) X (X.setCell ⟨W.heap.size + 1, 0, none⟩ (.int .i64 ((pre.length : Int) + 1)))) := Lib.hid ((Only.refl _ _ X).setCell ⟨W.heap.size + 1, 0, none⟩ (.inr (.inr rfl)) _)
    have HQ0 := Lib.hid (hsetY (.int .i64 ((pre.length : Int) + 1)))
    have HQ1 := Lib.hid hset
    unfold encN at hyy
    have HR := Lib.hid hR
    clear hsetY hset hJ4 hR hJp q0 q1 z0 z1 z2 hJ3
    gi_wp2_with fail
    refine RoundIn.mono (F := Fence.wide.inRound l') (round_wide (m := n - 1 - 1 - 1) HR.out) ?_
    rintro e W6 (⟨rfl, hJ6, hO6⟩ | ⟨rfl, hJx6, hO6⟩)
    · have hS3 := HS3.out
      have p0 := (hO6.block W.heap.size (by omega) (fun q => by have := HS.out _ q; omega)).trans HQ0.out
      have p1 := (hO6.block (W.heap.size + 1) (by omega) (fun q => by have := HS.out _ q; omega)).trans HQ1.out
      have HFIN := Lib.hid (show Only (W3.heap.size + 2) (fun j => S j ∨ j = l ∨ j = W.heap.size + 1) X W6 ∧ J (pre ++ [x]) W6 ∧ W6.heap[W.heap.size]? = some (.cells #[.func (.yield l) #[] #[]] 79 (0, 0)) ∧ W6.heap[W.heap.size + 1]? = some (.cells #[.int .i64 ((pre ++ [x]).length : Nat)] 3 (0, 0)) from
        ⟨HO.out.trans ((hO6.sub (fun j q => .inl q)).mono (by omega)), hJ6, p0, by rw [p1, show (((pre ++ [x]).length : Nat) : Int) = (pre.length : Int) + 1 by simp]⟩)
      clear hJ6 hO6 p0 p1 hS3 d0 f0 e0 e1 hyy
      gi_wp2_with fail
      exact HFIN.out
    · have hS3 := HS3.out
      have HFIN := Lib.hid (show Only (W3.heap.size + 2) (fun j => S j ∨ j = l ∨ j = W.heap.size + 1) X W6 ∧ Jx (pre ++ [x]) W6 from
        ⟨HO.out.trans ((hO6.sub (fun j q => by rcases q with q | q; exact .inl q; exact .inr (.inl q))).mono (by omega)), hJx6⟩)
      clear hJx6 hO6 hS3 d0 f0 e0 e1 hyy
      gi_wp2_with fail
      exact HFIN.out
  case done =>
    rintro D X rfl ⟨hJp, _, _⟩ hK
    refine ⟨by simp, .inl ⟨_, _, rfl, run_takeDeferred hK, ?_⟩⟩
    exact ⟨_, results_none rfl _ _ _, ⟨_, rfl⟩, .inl ((HJ.out _).putObj hJp _ (by have := HS3.out; omega))⟩
  case stop =>
    rintro D pre X rfl hpre hJp hK
    gi_wp2_with fail
    refine ⟨by simp, .inl ⟨_, _, rfl, run_takeDeferred hK, ?_⟩⟩
    exact ⟨_, results_none rfl _ _ _, ⟨_, rfl⟩, .inr ⟨pre, hpre, (HJX.out _).putObj hJp _ (by have := HS3.out; omega)⟩⟩
end Go.Proofs.YthlpigffjbhmoaaDoor
