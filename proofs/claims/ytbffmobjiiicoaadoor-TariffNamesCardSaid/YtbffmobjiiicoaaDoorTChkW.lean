/- The program's Check, Local and At. -/
import Derived.Test.YtbffmobjiiicoaaDoorTChk
set_option linter.unusedVariables false
set_option linter.unusedSimpArgs false
namespace Go.Proofs.YtbffmobjiiicoaaDoor
open Go.RowKit Go.Shelf
def fnsC (b : Nat) : Array Value := #[.func (.func 26) #[] #[.pointer (some ⟨b, 0, none⟩)], .func (.func 28) #[] #[.pointer (some ⟨b, 0, none⟩)], .func (.func 30) #[] #[.pointer (some ⟨b, 0, none⟩)], .func (.func 32) #[] #[.pointer (some ⟨b, 0, none⟩)], .func (.func 34) #[] #[.pointer (some ⟨b, 0, none⟩)]]
def FnsAt (W : World) (g b : Nat) : Prop := W.heap[g]? = some (.cells (fnsC b) 89 (0, 0))
theorem FnsAt.lt {W : World} {g b : Nat} (h : FnsAt W g b) : g < W.heap.size := (Array.getElem?_eq_some_iff.1 h).1
theorem FnsAt.next {W X : World} {g b : Nat} (h : FnsAt W g b) (hB : Below W.heap.size W X) : FnsAt X g b := (hB.block g h.lt).trans h
theorem FnsAt.cells {W : World} {g b : Nat} (h : FnsAt W g b) : W.cell? ⟨g, 0, none⟩ = some (.func (.func 26) #[] #[.pointer (some ⟨b, 0, none⟩)]) ∧ W.cell? ⟨g, 1, none⟩ = some (.func (.func 28) #[] #[.pointer (some ⟨b, 0, none⟩)]) ∧ W.cell? ⟨g, 2, none⟩ = some (.func (.func 30) #[] #[.pointer (some ⟨b, 0, none⟩)]) ∧ W.cell? ⟨g, 3, none⟩ = some (.func (.func 32) #[] #[.pointer (some ⟨b, 0, none⟩)]) ∧ W.cell? ⟨g, 4, none⟩ = some (.func (.func 34) #[] #[.pointer (some ⟨b, 0, none⟩)]) :=
  ⟨cell_of_row W g 0 _ _ _ h, cell_of_row W g 1 _ _ _ h, cell_of_row W g 2 _ _ _ h, cell_of_row W g 3 _ _ _ h, cell_of_row W g 4 _ _ _ h⟩
/-- What holds while the closures are called. -/
structure Chk (w W : World) (x : Ta) : Prop where
  b : TarBox W w.heap.size x
  f : FnsAt W (w.heap.size + 1) w.heap.size
  a : TarAt W.heap.size W x
  t : Tabs W
  o : Below w.heap.size w W
theorem Chk.next {w W X : World} {x : Ta} (h : Chk w W x) (hB : Below W.heap.size W X) : Chk w X x := ⟨h.b.next hB, h.f.next hB, h.a.up hB, h.t.next hB, h.o.trans (hB.mono h.o.size)⟩
set_option maxRecDepth 20000 in
set_option maxHeartbeats 2000000 in
theorem tcheck_walk (x : Ta) (w : World) (hA : TarAt w.heap.size w x) (hL : TarLen x) (hT : Tabs w) (E1 E2 E3 E4 E5 : Int)
    (h1 : zE x.off x.R x.zl = E1) (h2 : H8.calE x.H x.hl x.S x.sl = E2) (h3 : B9.tErr x.P x.pl x.Q x.rl = E3) (h4 : V10.tErr x.l = E4) (h5 : pE x.l = E5) (r : Int)
    (hc : ((E1 != 0) = true ∧ r = E1) ∨ ((E1 != 0) = false ∧ (E2 != 0) = true ∧ r = E2) ∨ ((E1 != 0) = false ∧ (E2 != 0) = false ∧ (E3 != 0) = true ∧ r = E3) ∨ ((E1 != 0) = false ∧ (E2 != 0) = false ∧ (E3 != 0) = false ∧ (E4 != 0) = true ∧ r = E4) ∨
      ((E1 != 0) = false ∧ (E2 != 0) = false ∧ (E3 != 0) = false ∧ (E4 != 0) = false ∧ (E5 != 0) = true ∧ r = E5) ∨ ((E1 != 0) = false ∧ (E2 != 0) = false ∧ (E3 != 0) = false ∧ (E4 != 0) = false ∧ (E5 != 0) = false ∧ r = 0)) :
    Calls Tryd.prog 11 #[tarV x] w fun e w' => e = .returned (.int .i64 r) ∧ Below w.heap.size w w' := by
  have C1 := Lib.hid (fun W (h : Chk w W x) => h1 ▸ chk1_any w.heap.size x W h.b h.a hL)
  have C2 := Lib.hid (fun W (h : Chk w W x) => h2 ▸ chk2_any w.heap.size x W h.b h.a hL h.t)
  have C3 := Lib.hid (fun W (h : Chk w W x) => h3 ▸ chk3_any w.heap.size x W h.b h.a hL)
  have C4 := Lib.hid (fun W (h : Chk w W x) => h4 ▸ chk4_any w.heap.size x W h.b h.a hL)
  have C5 := Lib.hid (fun W (h : Chk w W x) => h5 ▸ chk5_any w.heap.size x W h.b h.a hL)
  have nb := heap_alloc_new w (.cells (tarC x) 40)
  have nf := heap_alloc_new (w.alloc (.cells (tarC x) 40)) (.cells (fnsC w.heap.size) 89)
  rw [World.size_alloc] at nf
  have hB0 := ((Below.refl _ w).alloc (Nat.le_refl _) (.cells (tarC x) 40)).alloc (by simp) (.cells (fnsC w.heap.size) 89)
  have HS := Lib.hid (show Chk w ((w.alloc (.cells (tarC x) 40)).alloc (.cells (fnsC w.heap.size) 89)) x from ⟨(Below.heap_alloc _ _ _ (by simp)).trans nb, nf, hA.up hB0, hT.next hB0, hB0⟩)
  have hmf : ∀ (fn : Fn) (first cap : Array Value) (w : World), (Instr.makeFunc fn first cap).run Tryd.prog w = .ok (.func fn first cap) w := fun _ _ _ _ => rfl
  clear h1 h2 h3 h4 h5 hA hL hT nb nf hB0
  have q := HS.out.f.cells
  obtain ⟨q0, q1, q2, q3, q4⟩ := q
  rcases hc with ⟨e1, rfl⟩ | ⟨e1, e2, rfl⟩ | ⟨e1, e2, e3, rfl⟩ | ⟨e1, e2, e3, e4, rfl⟩ | ⟨e1, e2, e3, e4, e5, rfl⟩ | ⟨e1, e2, e3, e4, e5, rfl⟩
  · go_enter Tryd.func11, Tryd.ntmps11
    go_wp2
    refine wp_loop_rounds 6 ?_
    rw [rounds_succ]
    go_wp2_with fail
    refine (C1.out _ HS.out).mono ?_
    rintro e w1 ⟨rfl, hB1⟩
    have HS1 := Lib.hid (HS.out.next hB1)
    have q := HS1.out.f.cells
    clear q0 q1 q2 q3 q4 hB1
    obtain ⟨q0, q1, q2, q3, q4⟩ := q
    go_wp2
    go_ret
    exact ⟨rfl, HS1.out.o⟩
  · go_enter Tryd.func11, Tryd.ntmps11
    go_wp2
    refine wp_loop_rounds 6 ?_
    rw [rounds_succ]
    go_wp2_with fail
    refine (C1.out _ HS.out).mono ?_
    rintro e w1 ⟨rfl, hB1⟩
    have HS1 := Lib.hid (HS.out.next hB1)
    have q := HS1.out.f.cells
    clear q0 q1 q2 q3 q4 hB1
    obtain ⟨q0, q1, q2, q3, q4⟩ := q
    go_wp2
    rw [rounds_succ]
    go_wp2_with fail
    refine (C2.out _ HS1.out).mono ?_
    rintro e w2 ⟨rfl, hB2⟩
    have HS2 := Lib.hid (HS1.out.next hB2)
    have q := HS2.out.f.cells
    clear q0 q1 q2 q3 q4 hB2
    obtain ⟨q0, q1, q2, q3, q4⟩ := q
    go_wp2
    go_ret
    exact ⟨rfl, HS2.out.o⟩
  · go_enter Tryd.func11, Tryd.ntmps11
    go_wp2
    refine wp_loop_rounds 6 ?_
    rw [rounds_succ]
    go_wp2_with fail
    refine (C1.out _ HS.out).mono ?_
    rintro e w1 ⟨rfl, hB1⟩
    have HS1 := Lib.hid (HS.out.next hB1)
    have q := HS1.out.f.cells
    clear q0 q1 q2 q3 q4 hB1
    obtain ⟨q0, q1, q2, q3, q4⟩ := q
    go_wp2
    rw [rounds_succ]
    go_wp2_with fail
    refine (C2.out _ HS1.out).mono ?_
    rintro e w2 ⟨rfl, hB2⟩
    have HS2 := Lib.hid (HS1.out.next hB2)
    have q := HS2.out.f.cells
    clear q0 q1 q2 q3 q4 hB2
    obtain ⟨q0, q1, q2, q3, q4⟩ := q
    go_wp2
    rw [rounds_succ]
    go_wp2_with fail
    refine (C3.out _ HS2.out).mono ?_
    rintro e w3 ⟨rfl, hB3⟩
    have HS3 := Lib.hid (HS2.out.next hB3)
    have q := HS3.out.f.cells
    clear q0 q1 q2 q3 q4 hB3
    obtain ⟨q0, q1, q2, q3, q4⟩ := q
    go_wp2
    go_ret
    exact ⟨rfl, HS3.out.o⟩
  · go_enter Tryd.func11, Tryd.ntmps11
    go_wp2
    refine wp_loop_rounds 6 ?_
    rw [rounds_succ]
    go_wp2_with fail
    refine (C1.out _ HS.out).mono ?_
    rintro e w1 ⟨rfl, hB1⟩
    have HS1 := Lib.hid (HS.out.next hB1)
    have q := HS1.out.f.cells
    clear q0 q1 q2 q3 q4 hB1
    obtain ⟨q0, q1, q2, q3, q4⟩ := q
    go_wp2
    rw [rounds_succ]
    go_wp2_with fail
    refine (C2.out _ HS1.out).mono ?_
    rintro e w2 ⟨rfl, hB2⟩
    have HS2 := Lib.hid (HS1.out.next hB2)
    have q := HS2.out.f.cells
    clear q0 q1 q2 q3 q4 hB2
    obtain ⟨q0, q1, q2, q3, q4⟩ := q
    go_wp2
    rw [rounds_succ]
    go_wp2_with fail
    refine (C3.out _ HS2.out).mono ?_
    rintro e w3 ⟨rfl, hB3⟩
    have HS3 := Lib.hid (HS2.out.next hB3)
    have q := HS3.out.f.cells
    clear q0 q1 q2 q3 q4 hB3
    obtain ⟨q0, q1, q2, q3, q4⟩ := q
    go_wp2
    rw [rounds_succ]
    go_wp2_with fail
    refine (C4.out _ HS3.out).mono ?_
    rintro e w4 ⟨rfl, hB4⟩
    have HS4 := Lib.hid (HS3.out.next hB4)
    have q := HS4.out.f.cells
    clear q0 q1 q2 q3 q4 hB4
    obtain ⟨q0, q1, q2, q3, q4⟩ := q
    go_wp2
    go_ret
    exact ⟨rfl, HS4.out.o⟩
  · go_enter Tryd.func11, Tryd.ntmps11
    go_wp2
    refine wp_loop_rounds 6 ?_
    rw [rounds_succ]
    go_wp2_with fail
    refine (C1.out _ HS.out).mono ?_
    rintro e w1 ⟨rfl, hB1⟩
    have HS1 := Lib.hid (HS.out.next hB1)
    have q := HS1.out.f.cells
    clear q0 q1 q2 q3 q4 hB1
    obtain ⟨q0, q1, q2, q3, q4⟩ := q
    go_wp2
    rw [rounds_succ]
    go_wp2_with fail
    refine (C2.out _ HS1.out).mono ?_
    rintro e w2 ⟨rfl, hB2⟩
    have HS2 := Lib.hid (HS1.out.next hB2)
    have q := HS2.out.f.cells
    clear q0 q1 q2 q3 q4 hB2
    obtain ⟨q0, q1, q2, q3, q4⟩ := q
    go_wp2
    rw [rounds_succ]
    go_wp2_with fail
    refine (C3.out _ HS2.out).mono ?_
    rintro e w3 ⟨rfl, hB3⟩
    have HS3 := Lib.hid (HS2.out.next hB3)
    have q := HS3.out.f.cells
    clear q0 q1 q2 q3 q4 hB3
    obtain ⟨q0, q1, q2, q3, q4⟩ := q
    go_wp2
    rw [rounds_succ]
    go_wp2_with fail
    refine (C4.out _ HS3.out).mono ?_
    rintro e w4 ⟨rfl, hB4⟩
    have HS4 := Lib.hid (HS3.out.next hB4)
    have q := HS4.out.f.cells
    clear q0 q1 q2 q3 q4 hB4
    obtain ⟨q0, q1, q2, q3, q4⟩ := q
    go_wp2
    rw [rounds_succ]
    go_wp2_with fail
    refine (C5.out _ HS4.out).mono ?_
    rintro e w5 ⟨rfl, hB5⟩
    have HS5 := Lib.hid (HS4.out.next hB5)
    have q := HS5.out.f.cells
    clear q0 q1 q2 q3 q4 hB5
    obtain ⟨q0, q1, q2, q3, q4⟩ := q
    go_wp2
    go_ret
    exact ⟨rfl, HS5.out.o⟩
  · go_enter Tryd.func11, Tryd.ntmps11
    go_wp2
    refine wp_loop_rounds 6 ?_
    rw [rounds_succ]
    go_wp2_with fail
    refine (C1.out _ HS.out).mono ?_
    rintro e w1 ⟨rfl, hB1⟩
    have HS1 := Lib.hid (HS.out.next hB1)
    have q := HS1.out.f.cells
    clear q0 q1 q2 q3 q4 hB1
    obtain ⟨q0, q1, q2, q3, q4⟩ := q
    go_wp2
    rw [rounds_succ]
    go_wp2_with fail
    refine (C2.out _ HS1.out).mono ?_
    rintro e w2 ⟨rfl, hB2⟩
    have HS2 := Lib.hid (HS1.out.next hB2)
    have q := HS2.out.f.cells
    clear q0 q1 q2 q3 q4 hB2
    obtain ⟨q0, q1, q2, q3, q4⟩ := q
    go_wp2
    rw [rounds_succ]
    go_wp2_with fail
    refine (C3.out _ HS2.out).mono ?_
    rintro e w3 ⟨rfl, hB3⟩
    have HS3 := Lib.hid (HS2.out.next hB3)
    have q := HS3.out.f.cells
    clear q0 q1 q2 q3 q4 hB3
    obtain ⟨q0, q1, q2, q3, q4⟩ := q
    go_wp2
    rw [rounds_succ]
    go_wp2_with fail
    refine (C4.out _ HS3.out).mono ?_
    rintro e w4 ⟨rfl, hB4⟩
    have HS4 := Lib.hid (HS3.out.next hB4)
    have q := HS4.out.f.cells
    clear q0 q1 q2 q3 q4 hB4
    obtain ⟨q0, q1, q2, q3, q4⟩ := q
    go_wp2
    rw [rounds_succ]
    go_wp2_with fail
    refine (C5.out _ HS4.out).mono ?_
    rintro e w5 ⟨rfl, hB5⟩
    have HS5 := Lib.hid (HS4.out.next hB5)
    have q := HS5.out.f.cells
    clear q0 q1 q2 q3 q4 hB5
    obtain ⟨q0, q1, q2, q3, q4⟩ := q
    go_wp2
    rw [rounds_succ]
    go_wp2
    go_ret
    exact ⟨rfl, HS5.out.o⟩
end Go.Proofs.YtbffmobjiiicoaaDoor
