/- The chapter's tariff, and its first examples: some, is, alive. -/
import Derived.Test.YtbffmobjiiicoaaDoorTAt
import Derived.Test.YtbffmobjiiicoaaDoorFCopy
set_option linter.unusedVariables false
set_option linter.unusedSimpArgs false
namespace Go.Proofs.YtbffmobjiiicoaaDoor
open Go.RowKit Go.Shelf
def someL0 (i : Nat) : B9.Sw := if i = 0 then ⟨0, 0⟩ else ⟨360, 1⟩
def someL1 (_ : Nat) : B9.Sw := ⟨0, 0⟩
def someP (n : Nat) (i : Nat) : B9.Pl := if i = 0 then ⟨some ⟨n + 1, 0, none⟩, 2, 2, someL0⟩ else ⟨some ⟨n + 2, 0, none⟩, 1, 1, someL1⟩
def someQ (_ : Nat) : B9.Ru := ⟨0, 3, 1⟩
def someV : List V10.Ve := [⟨0, [100, 250, 0, 0, 0, 0, 0, 0]⟩]
def someT (n : Nat) : Ta := ⟨3600, none, 0, 0, fun _ => noRl, none, 0, 0, none, 0, 0, fun _ => ⟨0, 0, 0, 0, 0, 0⟩, fun _ => ⟨0, 0, 0⟩, some ⟨n + 3, 0, none⟩, 2, 2, some ⟨n + 4, 0, none⟩, 1, 1, someP n, someQ, some ⟨n + 6, 0, none⟩, 1, someV⟩
structure SomeAt (W : World) (n : Nat) : Prop where
  b1 : W.heap[n + 1]? = some (.cells #[.int .i64 0, .int .i64 0, .int .i64 360, .int .i64 1] 76 (0, 0))
  b2 : W.heap[n + 2]? = some (.cells #[.int .i64 0, .int .i64 0] 76 (0, 0))
  b3 : W.heap[n + 3]? = some (.cells #[.slice (some ⟨n + 1, 0, none⟩) 2 2, .slice (some ⟨n + 2, 0, none⟩) 1 1] 77 (0, 0))
  b4 : W.heap[n + 4]? = some (.cells #[.int .i64 0, .int .i64 3, .int .i64 1] 79 (0, 0))
  b5 : W.heap[n + 5]? = some (.cells #[.int .i64 100, .int .i64 250, .int .i64 0, .int .i64 0, .int .i64 0, .int .i64 0, .int .i64 0, .int .i64 0] 2 (0, 0))
  b6 : W.heap[n + 6]? = some (.cells #[.int .i64 0, .slice (some ⟨n + 5, 0, none⟩) 8 8] 44 (0, 0))
theorem SomeAt.next {W X : World} {n : Nat} (h : SomeAt W n) (hB : Below W.heap.size W X) : SomeAt X n := by
  have f : ∀ {k o}, W.heap[k]? = some o → X.heap[k]? = some o := fun q => (hB.block _ (Array.getElem?_eq_some_iff.1 q).1).trans q
  exact ⟨f h.b1, f h.b2, f h.b3, f h.b4, f h.b5, f h.b6⟩
theorem SomeAt.lt {W : World} {n : Nat} (h : SomeAt W n) : n + 6 < W.heap.size := (Array.getElem?_eq_some_iff.1 h.b6).1
theorem SomeAt.tar {W : World} {n : Nat} (h : SomeAt W n) : TarAt W.heap.size W (someT n) := by
  have hs := h.lt
  refine ⟨fun i hi => absurd hi (Nat.not_lt_zero _), fun i hi => absurd hi (Nat.not_lt_zero _), fun i hi => absurd hi (Nat.not_lt_zero _), fun i hi => ?_, fun i hi => ?_, fun i v hv => ?_, Nat.le_refl _⟩
  · have hm : 2 ≤ maxLen := by unfold maxLen; omega
    rcases (show i = 0 ∨ i = 1 by have : i < 2 := hi; omega) with rfl | rfl
    · refine ⟨n + 3, 0, rfl, by omega, cell_of_row _ _ 0 _ _ _ h.b3, ⟨Nat.le_refl _, hm⟩, fun j hj => ?_⟩
      rcases (show j = 0 ∨ j = 1 by have : j < 2 := hj; omega) with rfl | rfl
      · exact ⟨n + 1, 0, rfl, by omega, cell_of_row _ _ 0 _ _ _ h.b1, cell_of_row _ _ 1 _ _ _ h.b1⟩
      · exact ⟨n + 1, 0, rfl, by omega, cell_of_row _ _ 2 _ _ _ h.b1, cell_of_row _ _ 3 _ _ _ h.b1⟩
    · refine ⟨n + 3, 0, rfl, by omega, cell_of_row _ _ 1 _ _ _ h.b3, ⟨Nat.le_refl _, Nat.le_trans (show 1 ≤ 2 by decide) hm⟩, fun j hj => ?_⟩
      obtain rfl : j = 0 := by have : j < 1 := hj; omega
      exact ⟨n + 2, 0, rfl, by omega, cell_of_row _ _ 0 _ _ _ h.b2, cell_of_row _ _ 1 _ _ _ h.b2⟩
  · obtain rfl : i = 0 := by have : i < 1 := hi; omega
    exact ⟨n + 4, 0, rfl, by omega, cell_of_row _ _ 0 _ _ _ h.b4, cell_of_row _ _ 1 _ _ _ h.b4, cell_of_row _ _ 2 _ _ _ h.b4⟩
  · have hi : i = 0 := by
      have := (List.getElem?_eq_some_iff.1 hv).1
      have : i < 1 := this
      omega
    subst hi
    have hv' : some (⟨0, [100, 250, 0, 0, 0, 0, 0, 0]⟩ : V10.Ve) = some v := hv
    cases hv'
    refine ⟨n + 6, 0, some ⟨n + 5, 0, none⟩, 8, rfl, by omega, cell_of_row _ _ 0 _ _ _ h.b6, cell_of_row _ _ 1 _ _ _ h.b6, ⟨Nat.le_refl _, by unfold maxLen; omega⟩, fun j p hp => ?_⟩
    have hj : j < 8 := (List.getElem?_eq_some_iff.1 hp).1
    refine ⟨n + 5, 0, rfl, by omega, ?_⟩
    rw [Nat.zero_add, cell_of_row _ _ j _ _ _ h.b5]
    rcases (show j = 0 ∨ j = 1 ∨ j = 2 ∨ j = 3 ∨ j = 4 ∨ j = 5 ∨ j = 6 ∨ j = 7 by omega) with rfl | rfl | rfl | rfl | rfl | rfl | rfl | rfl <;> (cases hp; rfl)
theorem someT_len (n : Nat) : TarLen (someT n) := ⟨Nat.zero_le _, Nat.zero_le _, Nat.zero_le _, (show 2 ≤ maxLen by unfold maxLen; omega), (show 1 ≤ maxLen by unfold maxLen; omega), Nat.le_refl _, (show 1 ≤ maxLen by unfold maxLen; omega)⟩
theorem someT_is (n : Nat) : TarIs (someT n) := by
  refine ⟨?_, ?_, ?_, ?_, ?_, ?_⟩
  · show ZoneIs 3600 (fun _ => noRl) 0
    decide
  · show H8.CalIs (fun _ => ⟨0, 0, 0, 0, 0, 0⟩) 0 (fun _ => ⟨0, 0, 0⟩) 0
    decide
  · refine ⟨(show 1 ≤ 2 by decide), (show 2 ≤ 50 by decide), (show 1 ≤ 100 by decide), fun i hi => ?_, fun i hi => ?_⟩
    · rcases (show i = 0 ∨ i = 1 by have : i < 2 := hi; omega) with rfl | rfl
      · show B9.PlanIs someL0 2
        decide
      · show B9.PlanIs someL1 1
        decide
    · show B9.RuIs ⟨0, 3, 1⟩ 2
      decide
  · show V10.TabMay someV
    decide
  · exact List.cons_ne_nil _ _
  · intro v hv
    obtain rfl : v = ⟨0, [100, 250, 0, 0, 0, 0, 0, 0]⟩ := by simpa [someT, someV] using hv
    rfl
theorem heap_up {W : World} {b : Nat} {x : Obj} (h : W.heap[b]? = some x) (o : Obj) : (W.alloc o).heap[b]? = some x := (Below.heap_alloc W o b (Array.getElem?_eq_some_iff.1 h).1).trans h
/-- Seven blocks one behind the other. -/
theorem some_blocks (w : World) (o0 : Obj) {o1 o2 o3 o4 o5 o6 : Obj} (e1 : o1 = .cells #[.int .i64 0, .int .i64 0, .int .i64 360, .int .i64 1] 76) (e2 : o2 = .cells #[.int .i64 0, .int .i64 0] 76)
    (e3 : o3 = .cells #[.slice (some ⟨w.heap.size + 1, 0, none⟩) 2 2, .slice (some ⟨w.heap.size + 2, 0, none⟩) 1 1] 77) (e4 : o4 = .cells #[.int .i64 0, .int .i64 3, .int .i64 1] 79)
    (e5 : o5 = .cells #[.int .i64 100, .int .i64 250, .int .i64 0, .int .i64 0, .int .i64 0, .int .i64 0, .int .i64 0, .int .i64 0] 2) (e6 : o6 = .cells #[.int .i64 0, .slice (some ⟨w.heap.size + 5, 0, none⟩) 8 8] 44) :
    SomeAt (((((((w.alloc o0).alloc o1).alloc o2).alloc o3).alloc o4).alloc o5).alloc o6) w.heap.size ∧ (((((((w.alloc o0).alloc o1).alloc o2).alloc o3).alloc o4).alloc o5).alloc o6).heap[w.heap.size]? = some o0 ∧
      Below w.heap.size w (((((((w.alloc o0).alloc o1).alloc o2).alloc o3).alloc o4).alloc o5).alloc o6) := by
  subst e1 e2 e3 e4 e5 e6
  have n0 := heap_alloc_new w o0
  have n1 := heap_alloc_new (w.alloc o0) (.cells #[.int .i64 0, .int .i64 0, .int .i64 360, .int .i64 1] 76)
  have n2 := heap_alloc_new ((w.alloc o0).alloc (.cells #[.int .i64 0, .int .i64 0, .int .i64 360, .int .i64 1] 76)) (.cells #[.int .i64 0, .int .i64 0] 76)
  have n3 := heap_alloc_new (((w.alloc o0).alloc (.cells #[.int .i64 0, .int .i64 0, .int .i64 360, .int .i64 1] 76)).alloc (.cells #[.int .i64 0, .int .i64 0] 76)) (.cells #[.slice (some ⟨w.heap.size + 1, 0, none⟩) 2 2, .slice (some ⟨w.heap.size + 2, 0, none⟩) 1 1] 77)
  obtain ⟨W4, hW4⟩ : ∃ W, ((((w.alloc o0).alloc (.cells #[.int .i64 0, .int .i64 0, .int .i64 360, .int .i64 1] 76)).alloc (.cells #[.int .i64 0, .int .i64 0] 76)).alloc (.cells #[.slice (some ⟨w.heap.size + 1, 0, none⟩) 2 2, .slice (some ⟨w.heap.size + 2, 0, none⟩) 1 1] 77)) = W := ⟨_, rfl⟩
  have hs : W4.heap.size = w.heap.size + 4 := by rw [← hW4]; simp
  simp only [World.size_alloc] at n1 n2 n3
  have m0 := heap_up (heap_up (heap_up n0 (.cells #[.int .i64 0, .int .i64 0, .int .i64 360, .int .i64 1] 76)) (.cells #[.int .i64 0, .int .i64 0] 76)) (.cells #[.slice (some ⟨w.heap.size + 1, 0, none⟩) 2 2, .slice (some ⟨w.heap.size + 2, 0, none⟩) 1 1] 77)
  have m1 := heap_up (heap_up n1 (.cells #[.int .i64 0, .int .i64 0] 76)) (.cells #[.slice (some ⟨w.heap.size + 1, 0, none⟩) 2 2, .slice (some ⟨w.heap.size + 2, 0, none⟩) 1 1] 77)
  have m2 := heap_up n2 (.cells #[.slice (some ⟨w.heap.size + 1, 0, none⟩) 2 2, .slice (some ⟨w.heap.size + 2, 0, none⟩) 1 1] 77)
  have hB : Below w.heap.size w W4 := by
    rw [← hW4]
    exact ((((Below.refl _ w).alloc (Nat.le_refl _) _).alloc (by simp) _).alloc (by simp; omega) _).alloc (by simp; omega) _
  rw [hW4] at m0 m1 m2 n3 ⊢
  clear n0 n1 n2 hW4
  have k4 := heap_alloc_new W4 (.cells #[.int .i64 0, .int .i64 3, .int .i64 1] 79)
  have k5 := heap_alloc_new (W4.alloc (.cells #[.int .i64 0, .int .i64 3, .int .i64 1] 79)) (.cells #[.int .i64 100, .int .i64 250, .int .i64 0, .int .i64 0, .int .i64 0, .int .i64 0, .int .i64 0, .int .i64 0] 2)
  have k6 := heap_alloc_new ((W4.alloc (.cells #[.int .i64 0, .int .i64 3, .int .i64 1] 79)).alloc (.cells #[.int .i64 100, .int .i64 250, .int .i64 0, .int .i64 0, .int .i64 0, .int .i64 0, .int .i64 0, .int .i64 0] 2)) (.cells #[.int .i64 0, .slice (some ⟨w.heap.size + 5, 0, none⟩) 8 8] 44)
  simp only [World.size_alloc] at k5 k6
  rw [hs] at k4 k5 k6
  refine ⟨⟨heap_up (heap_up (heap_up m1 _) _) _, heap_up (heap_up (heap_up m2 _) _) _, heap_up (heap_up (heap_up n3 _) _) _, heap_up (heap_up k4 _) _, heap_up k5 _, k6⟩, heap_up (heap_up (heap_up m0 _) _) _, ?_⟩
  exact ((hB.alloc (by omega) _).alloc (by simp; omega) _).alloc (by simp; omega) _
theorem someI : (Tryd.prog.info? 40).map (·.size) = some 7 := by kernel_rfl
set_option maxRecDepth 100000 in
theorem some_any (w : World) : Calls Tryd.prog 8 #[] w fun e w' => e = .returned (tarV (someT w.heap.size)) ∧ SomeAt w' w.heap.size ∧ Below w.heap.size w w' := by
  obtain ⟨h1, h2, h3⟩ := some_blocks w (.cells (tarC (someT w.heap.size)) 40) rfl rfl rfl rfl rfl rfl
  have H1 := Lib.hid h1
  have H2 := Lib.hid h2
  have H3 := Lib.hid h3
  clear h1 h2 h3
  go_enter Tryd.func8, Tryd.ntmps8
  go_wp2
  exact bodyPost_ret (v := tarV (someT w.heap.size)) (results_cell_row (ty := 40) rfl _ _ w.heap.size _ _ _ _ rfl H2.out Tryd.underlying40 rfl someI) rfl ⟨rfl, H1.out, H3.out⟩
end Go.Proofs.YtbffmobjiiicoaaDoor
