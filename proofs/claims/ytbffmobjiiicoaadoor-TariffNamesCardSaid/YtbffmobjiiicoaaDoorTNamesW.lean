/- TariffNames, walked. -/
import Derived.Test.YtbffmobjiiicoaaDoorTNamesM
import Derived.Test.YtbffmobjiiicoaaDoorRRegL
set_option linter.unusedVariables false
set_option linter.unusedSimpArgs false
namespace Go.Proofs.YtbffmobjiiicoaaDoor
open Go.RowKit Go.Shelf
theorem bel_alloc {n : Nat} {w W X : World} {o : Obj} (h : Below n w W) (hn : n ≤ W.heap.size) (hB : Below (W.alloc o).heap.size (W.alloc o) X) : Below n w X := (h.alloc hn o).trans (hB.mono (by rw [World.size_alloc]; omega))
theorem bel_next {n : Nat} {w W X : World} (h : Below n w W) (hn : n ≤ W.heap.size) (hB : Below W.heap.size W X) : Below n w X := h.trans (hB.mono hn)
abbrev litC (n : Nat) : Array Value := #[.int .i64 3600, .slice none 0 0, .slice none 0 0, .slice none 0 0, .slice (some ⟨n + 3, 0, none⟩) 2 2, .slice (some ⟨n + 4, 0, none⟩) 1 1, .slice (some ⟨n + 6, 0, none⟩) 1 1]
abbrev litY (n : Nat) : Array Value := #[.int .i64 3600, .slice none 0 0, .slice none 0 0, .slice none 0 0, .slice (some ⟨n + 3, 0, none⟩) 2 2, .slice (some ⟨n + 4, 0, none⟩) 1 1, .slice none 0 0]
abbrev litZ (n : Nat) : Array Value := #[.int .i64 3600, .slice none 0 0, .slice none 0 0, .slice none 0 0, .slice none 0 0, .slice (some ⟨n + 4, 0, none⟩) 1 1, .slice (some ⟨n + 6, 0, none⟩) 1 1]
theorem some_lit (w : World) : Calls Tryd.prog 8 #[] w fun e w' => e = .returned (.agg (litC w.heap.size)) ∧ SomeAt w' w.heap.size ∧ Below w.heap.size w w' := some_any w
set_option maxRecDepth 100000 in
set_option maxHeartbeats 16000000 in
theorem namesW (w : World) (hT : Tabs w) : Calls Tryd.prog 3 #[] w fun e w' => e = .returned (.bool true) ∧ Below w.heap.size w w' := by
  have HTT := Lib.hid hT
  have HB0 := Lib.hid (Below.refl w.heap.size w)
  clear hT
  go_enter Tryd.func3, Tryd.ntmps3
  go_wp2_with fail
  refine (cost_lit (L := ex1L) (len := 3) (c := 1) (r := 1000) (x := 0) _ (heap_alloc_new w _) (by decide) (fun i hi => by rcases (show i = 0 ∨ i = 1 ∨ i = 2 by omega) with rfl | rfl | rfl <;> exact ⟨rfl, rfl⟩) cost1).mono ?_
  rintro e w1 ⟨rfl, hB⟩
  have HB1 := Lib.hid (bel_alloc HB0.out HB0.out.size hB)
  clear hB HB0
  go_wp2_with fail
  refine (cost_lit (L := ex2L) (len := 1) (c := 0) (r := 0) (x := 10) _ (heap_alloc_new w1 _) (by decide) (fun i hi => by rcases (show i = 0 by omega) with rfl <;> exact ⟨rfl, rfl⟩) cost2).mono ?_
  rintro e w2 ⟨rfl, hB⟩
  have HB2 := Lib.hid (bel_alloc HB1.out HB1.out.size hB)
  clear hB HB1
  go_wp2_with fail
  refine (cost_lit (L := ex3L) (len := 2) (c := 0) (r := 0) (x := 10) _ (heap_alloc_new w2 _) (by decide) (fun i hi => by rcases (show i = 0 ∨ i = 1 by omega) with rfl | rfl <;> exact ⟨rfl, rfl⟩) cost3).mono ?_
  rintro e w3 ⟨rfl, hB⟩
  have HB3 := Lib.hid (bel_alloc HB2.out HB2.out.size hB)
  clear hB HB2
  go_wp2_with fail
  refine (cost_lit (L := ex4L) (len := 1) (c := 0) (r := 0) (x := 2) _ (heap_alloc_new w3 _) (by decide) (fun i hi => by rcases (show i = 0 by omega) with rfl <;> exact ⟨rfl, rfl⟩) cost4).mono ?_
  rintro e w4 ⟨rfl, hB⟩
  have HB4 := Lib.hid (bel_alloc HB3.out HB3.out.size hB)
  clear hB HB3
  go_wp2_with fail
  refine (some_lit w4).mono ?_
  rintro e x1 ⟨rfl, hS, hB⟩
  obtain ⟨n1, hn1⟩ : ∃ n, n = w4.heap.size := ⟨_, rfl⟩
  rw [← hn1] at hS ⊢
  obtain ⟨m1, hm1⟩ : ∃ m, m = x1.heap.size := ⟨_, rfl⟩
  obtain ⟨V1, hV1⟩ : ∃ V, V = x1.alloc (.cells (litC n1) 40) := ⟨_, rfl⟩
  have hbv : Below x1.heap.size x1 V1 := by rw [hV1]; exact (Below.refl _ x1).alloc (Nat.le_refl _) _
  have hSV : SomeAt V1 n1 := hS.next hbv
  have hbox : TarBox V1 m1 (someT n1) := by rw [hV1, hm1]; exact heap_alloc_new x1 _
  have hsv : V1.heap.size = m1 + 1 := by rw [hV1, hm1]; exact World.size_alloc _ _
  have hlt1 : n1 + 6 < m1 := by rw [hm1]; exact hS.lt
  have hn14 : w.heap.size ≤ n1 := by rw [hn1]; exact HB4.out.size
  have HBV := Lib.hid (bel_next (bel_next HB4.out HB4.out.size hB) (Nat.le_trans HB4.out.size hB.size) hbv)
  obtain ⟨_, _, _, _, _, _, d6⟩ := hbox.cells
  have d7 : V1.cell? ⟨n1 + 6, 1, none⟩ = some (.slice (some ⟨n1 + 5, 0, none⟩) 8 8) := cell_of_row _ _ 1 _ _ _ hSV.b6
  have HSV := Lib.hid hSV
  have HBOX := Lib.hid hbox
  have HV1 := Lib.hid hV1
  have HLT1 := Lib.hid (And.intro hlt1 (And.intro hsv hn14))
  have HM1 := Lib.hid hm1
  clear hbv hbox hsv hlt1 hS hSV hB hV1 hn14 HB4 hn1 hm1
  go_wp2_with fail
  rw [← HM1.out]
  first
    | rw [← HV1.out]
    | (change Code.wp _ _ _ _ (x1.alloc (.cells (litC n1) 40)); rw [← HV1.out])
  have hmx : Tryd.prog.follows .mixedOrders = true := by kernel_rfl
  have q1 : V1.drew.cell? ⟨m1, 6, none⟩ = some (.slice (some ⟨n1 + 6, 0, none⟩) 1 1) ∧ V1.drew.cell? ⟨n1 + 6, 1, none⟩ = some (.slice (some ⟨n1 + 5, 0, none⟩) 8 8) := ⟨d6, d7⟩
  have yf := frozen_of_row V1 (n1 + 6) 1 _ _ HSV.out.b6
  clear d6 d7
  refine regionL (fun W => W.cell? ⟨m1, 6, none⟩ = some (.slice (some ⟨n1 + 6, 0, none⟩) 1 1) ∧ W.cell? ⟨n1 + 6, 1, none⟩ = some (.slice (some ⟨n1 + 5, 0, none⟩) 8 8)) 10 hmx ?_
  change AnyL _ _ _ _ _ _ _ _ _ V1.drew
  refine takeL (i := 0) (oi := { dst := some 91, op := Go.Op.fieldAddr 40 (Go.Operand.tmp 14) 3, type := 0, pos := "outright.go:45", after := #[], guard := none }) (v := .pointer (some ⟨m1, 6, none⟩)) [10] rfl (by kernel_rfl) (by kernel_rfl) (by kernel_rfl) (by kernel_rfl) (fun _ _ _ h => calm_panic h) rfl ?_ q1 ?_
  · intro W hW
    (try dsimp only at hW)
    obtain ⟨h0, h1⟩ := hW
    go_simp
  simp only [Act.put, List.setIfInBounds_toArray, List.set_cons_zero, List.set_cons_succ]
  refine takeL (i := 1) (oi := { dst := some 92, op := Go.Op.load 38 (Go.Operand.tmp 91), type := 38, pos := "outright.go:45", after := #[{ on := 0, ground := Go.Ground.data }], guard := none }) (v := .slice (some ⟨n1 + 6, 0, none⟩) 1 1) [10] rfl (by kernel_rfl) (by kernel_rfl) (by kernel_rfl) (by kernel_rfl) (fun _ _ _ h => calm_panic h) rfl ?_ q1 ?_
  · intro W hW
    (try dsimp only at hW)
    obtain ⟨h0, h1⟩ := hW
    go_simp
  simp only [Act.put, List.setIfInBounds_toArray, List.set_cons_zero, List.set_cons_succ]
  refine takeL (i := 2) (oi := { dst := some 93, op := Go.Op.fieldAddr 40 (Go.Operand.tmp 14) 3, type := 0, pos := "outright.go:45", after := #[], guard := none }) (v := .pointer (some ⟨m1, 6, none⟩)) [10] rfl (by kernel_rfl) (by kernel_rfl) (by kernel_rfl) (by kernel_rfl) (fun _ _ _ h => calm_panic h) rfl ?_ q1 ?_
  · intro W hW
    (try dsimp only at hW)
    obtain ⟨h0, h1⟩ := hW
    go_simp
  simp only [Act.put, List.setIfInBounds_toArray, List.set_cons_zero, List.set_cons_succ]
  refine takeL (i := 3) (oi := { dst := some 94, op := Go.Op.load 38 (Go.Operand.tmp 93), type := 38, pos := "outright.go:45", after := #[{ on := 2, ground := Go.Ground.data }], guard := none }) (v := .slice (some ⟨n1 + 6, 0, none⟩) 1 1) [10] rfl (by kernel_rfl) (by kernel_rfl) (by kernel_rfl) (by kernel_rfl) (fun _ _ _ h => calm_panic h) rfl ?_ q1 ?_
  · intro W hW
    (try dsimp only at hW)
    obtain ⟨h0, h1⟩ := hW
    go_simp
  simp only [Act.put, List.setIfInBounds_toArray, List.set_cons_zero, List.set_cons_succ]
  refine takeL (i := 4) (oi := { dst := some 95, op := Go.Op.indexAddr 38 (Go.Operand.tmp 94) (Go.Operand.const (Go.Value.int Go.IntKind.i64 0)), type := 0, pos := "outright.go:45", after := #[{ on := 3, ground := Go.Ground.data }], guard := none }) (v := .pointer (some ⟨n1 + 6, 0, none⟩)) [10] rfl (by kernel_rfl) (by kernel_rfl) (by kernel_rfl) (by kernel_rfl) (fun _ _ _ h => calm_panic h) rfl ?_ q1 ?_
  · intro W hW
    (try dsimp only at hW)
    obtain ⟨h0, h1⟩ := hW
    go_simp
  simp only [Act.put, List.setIfInBounds_toArray, List.set_cons_zero, List.set_cons_succ]
  refine takeL (i := 5) (oi := { dst := some 96, op := Go.Op.fieldAddr 44 (Go.Operand.tmp 95) 1, type := 0, pos := "outright.go:45", after := #[{ on := 4, ground := Go.Ground.data }], guard := none }) (v := .pointer (some ⟨n1 + 6, 1, none⟩)) [10] rfl (by kernel_rfl) (by kernel_rfl) (by kernel_rfl) (by kernel_rfl) (fun _ _ _ h => calm_panic h) rfl ?_ q1 ?_
  · intro W hW
    (try dsimp only at hW)
    obtain ⟨h0, h1⟩ := hW
    go_simp
  simp only [Act.put, List.setIfInBounds_toArray, List.set_cons_zero, List.set_cons_succ]
  refine takeL (i := 6) (oi := { dst := some 97, op := Go.Op.load 42 (Go.Operand.tmp 96), type := 42, pos := "outright.go:45", after := #[{ on := 5, ground := Go.Ground.data }], guard := none }) (v := .slice (some ⟨n1 + 5, 0, none⟩) 8 8) [10] rfl (by kernel_rfl) (by kernel_rfl) (by kernel_rfl) (by kernel_rfl) (fun _ _ _ h => calm_panic h) rfl ?_ q1 ?_
  · intro W hW
    (try dsimp only at hW)
    obtain ⟨h0, h1⟩ := hW
    go_simp
  simp only [Act.put, List.setIfInBounds_toArray, List.set_cons_zero, List.set_cons_succ]
  refine takeL (i := 7) (oi := { dst := some 98, op := Go.Op.slice 42 (Go.Operand.tmp 97) none (some (Go.Operand.const (Go.Value.int Go.IntKind.i64 7))) none, type := 42, pos := "outright.go:45", after := #[{ on := 6, ground := Go.Ground.data }], guard := none }) (v := .slice (some ⟨n1 + 5, 0, none⟩) 7 8) [10] rfl (by kernel_rfl) (by kernel_rfl) (by kernel_rfl) (by kernel_rfl) (fun _ _ _ h => calm_panic h) rfl ?_ q1 ?_
  · intro W hW
    (try dsimp only at hW)
    obtain ⟨h0, h1⟩ := hW
    go_simp
  simp only [Act.put, List.setIfInBounds_toArray, List.set_cons_zero, List.set_cons_succ]
  refine takeL (i := 8) (oi := { dst := some 99, op := Go.Op.indexAddr 38 (Go.Operand.tmp 92) (Go.Operand.const (Go.Value.int Go.IntKind.i64 0)), type := 0, pos := "outright.go:45", after := #[{ on := 1, ground := Go.Ground.data }, { on := 0, ground := Go.Ground.phase }, { on := 1, ground := Go.Ground.phase }, { on := 2, ground := Go.Ground.phase }, { on := 3, ground := Go.Ground.phase }, { on := 4, ground := Go.Ground.phase }, { on := 5, ground := Go.Ground.phase }, { on := 6, ground := Go.Ground.phase }, { on := 7, ground := Go.Ground.phase }], guard := none }) (v := .pointer (some ⟨n1 + 6, 0, none⟩)) [9, 10] rfl (by kernel_rfl) (by kernel_rfl) (by kernel_rfl) (by kernel_rfl) (fun _ _ _ h => calm_panic h) rfl ?_ q1 ?_
  · intro W hW
    (try dsimp only at hW)
    obtain ⟨h0, h1⟩ := hW
    go_simp
  simp only [Act.put, List.setIfInBounds_toArray, List.set_cons_zero, List.set_cons_succ]
  refine takeL (i := 9) (oi := { dst := some 100, op := Go.Op.fieldAddr 44 (Go.Operand.tmp 99) 1, type := 0, pos := "outright.go:45", after := #[{ on := 8, ground := Go.Ground.data }, { on := 0, ground := Go.Ground.phase }, { on := 1, ground := Go.Ground.phase }, { on := 2, ground := Go.Ground.phase }, { on := 3, ground := Go.Ground.phase }, { on := 4, ground := Go.Ground.phase }, { on := 5, ground := Go.Ground.phase }, { on := 6, ground := Go.Ground.phase }, { on := 7, ground := Go.Ground.phase }], guard := none }) (v := .pointer (some ⟨n1 + 6, 1, none⟩)) [10] rfl (by kernel_rfl) (by kernel_rfl) (by kernel_rfl) (by kernel_rfl) (fun _ _ _ h => calm_panic h) rfl ?_ q1 ?_
  · intro W hW
    (try dsimp only at hW)
    obtain ⟨h0, h1⟩ := hW
    go_simp
  simp only [Act.put, List.setIfInBounds_toArray, List.set_cons_zero, List.set_cons_succ]
  refine oneL (i := 10) (o := { dst := none, op := Go.Op.store 42 (Go.Operand.tmp 100) (Go.Operand.tmp 98), type := 0, pos := "outright.go:45", after := #[{ on := 9, ground := Go.Ground.data }, { on := 7, ground := Go.Ground.data }, { on := 0, ground := Go.Ground.phase }, { on := 1, ground := Go.Ground.phase }, { on := 2, ground := Go.Ground.phase }, { on := 3, ground := Go.Ground.phase }, { on := 4, ground := Go.Ground.phase }, { on := 5, ground := Go.Ground.phase }, { on := 6, ground := Go.Ground.phase }, { on := 7, ground := Go.Ground.phase }], guard := none }) rfl (by kernel_rfl) rfl ?_
  refine wp_by_skip (w' := V1.drew.setCell ⟨n1 + 6, 1, none⟩ (.slice (some ⟨n1 + 5, 0, none⟩) 7 8)) (by obtain ⟨h0, h1⟩ := q1; go_simp) ?_
  refine ⟨fun h => absurd rfl h, ?_⟩
  refine doneL (by kernel_rfl) (Calm.normal ?_) _
  obtain ⟨w7, hw7⟩ : ∃ w7, w7 = V1.drew.setCell ⟨n1 + 6, 1, none⟩ (.slice (some ⟨n1 + 5, 0, none⟩) 7 8) := ⟨_, rfl⟩
  have hsF : SomeF w7 n1 0 ps7 := by rw [hw7]; exact SomeAt.setX (W := V1.drew) (HSV.out.next (Below.refl V1.heap.size V1).drew)
  have hbox7 : w7.heap[m1]? = some (.cells (litC n1) 40 (0, 0)) := by rw [hw7]; exact (heap_setCell_other V1.drew ⟨n1 + 6, 1, none⟩ m1 _ (by have := HLT1.out.1; show m1 ≠ n1 + 6; omega)).trans HBOX.out
  have hs7 : w7.heap.size = m1 + 1 := by rw [hw7]; simp; exact HLT1.out.2.1
  have GX := Lib.hid (show Got w7 w7.heap.size m1 (someG n1 0 ps7) from ⟨hbox7, by omega, hsF.tar (by decide) (fun j p hp => by
    have hj : j < 7 := (List.getElem?_eq_some_iff.1 hp).1
    rcases (show j = 0 ∨ j = 1 ∨ j = 2 ∨ j = 3 ∨ j = 4 ∨ j = 5 ∨ j = 6 by omega) with rfl | rfl | rfl | rfl | rfl | rfl | rfl <;> exact hp)⟩)
  have HB7 := Lib.hid (show Below w.heap.size w w7 by rw [hw7]; exact HBV.out.drew.setCell (p := ⟨n1 + 6, 1, none⟩) (by have := HLT1.out.2.2; show w.heap.size ≤ n1 + 6; omega) _)
  rw [← hw7]
  clear q1 yf hsF hbox7 hs7 hw7 HSV HBOX HV1 HLT1 HBV HM1
  go_wp2_with fail
  refine (some_lit w7).mono ?_
  rintro e x2 ⟨rfl, hS, hB⟩
  obtain ⟨n2, hn⟩ : ∃ n, n = w7.heap.size := ⟨_, rfl⟩
  rw [← hn] at hS ⊢
  obtain ⟨m2, hm⟩ : ∃ m, m = x2.heap.size := ⟨_, rfl⟩
  obtain ⟨w9, hV⟩ : ∃ V, V = x2.alloc (.cells (litY n2) 40) := ⟨_, rfl⟩
  have hbv : Below x2.heap.size x2 w9 := by rw [hV]; exact (Below.refl _ x2).alloc (Nat.le_refl _) _
  have hsv : w9.heap.size = m2 + 1 := by rw [hV, hm]; exact World.size_alloc _ _
  have hbN : Below w7.heap.size w7 w9 := hB.trans (hbv.mono hB.size)
  have G2 := Lib.hid (show Got w9 w9.heap.size m2 (someY n2) from ⟨by rw [hV, hm]; exact heap_alloc_new x2 _, by omega, (hS.next hbv).y⟩)
  have GXk := Lib.hid (GX.out.next (hbN.mono GX.out.at_.ns))
  clear GX
  have GX := GXk
  clear GXk
  have HB9 := Lib.hid (bel_next HB7.out HB7.out.size hbN)
  clear HB7
  have HV := Lib.hid hV
  have HM := Lib.hid hm
  clear hbv hsv hbN hS hB hV hm hn
  go_wp2_with fail
  rw [← HM.out]
  first
    | rw [← HV.out]
    | (change Calls _ _ _ (x2.alloc (.cells (litY n2) 40)) _; rw [← HV.out])
  clear HV HM
  go_wp2_with fail
  refine (some_lit w9).mono ?_
  rintro e x3 ⟨rfl, hS, hB⟩
  obtain ⟨n3, hn⟩ : ∃ n, n = w9.heap.size := ⟨_, rfl⟩
  rw [← hn] at hS ⊢
  obtain ⟨m3, hm⟩ : ∃ m, m = x3.heap.size := ⟨_, rfl⟩
  obtain ⟨w11, hV⟩ : ∃ V, V = x3.alloc (.cells (litZ n3) 40) := ⟨_, rfl⟩
  have hbv : Below x3.heap.size x3 w11 := by rw [hV]; exact (Below.refl _ x3).alloc (Nat.le_refl _) _
  have hsv : w11.heap.size = m3 + 1 := by rw [hV, hm]; exact World.size_alloc _ _
  have hbN : Below w9.heap.size w9 w11 := hB.trans (hbv.mono hB.size)
  have G3 := Lib.hid (show Got w11 w11.heap.size m3 (someZ n3) from ⟨by rw [hV, hm]; exact heap_alloc_new x3 _, by omega, (hS.next hbv).z⟩)
  have GXk := Lib.hid (GX.out.next (hbN.mono GX.out.at_.ns))
  clear GX
  have GX := GXk
  clear GXk
  have G2k := Lib.hid (G2.out.next (hbN.mono G2.out.at_.ns))
  clear G2
  have G2 := G2k
  clear G2k
  have HB11 := Lib.hid (bel_next HB9.out HB9.out.size hbN)
  clear HB9
  have HV := Lib.hid hV
  have HM := Lib.hid hm
  clear hbv hsv hbN hS hB hV hm hn
  go_wp2_with fail
  rw [← HM.out]
  first
    | rw [← HV.out]
    | (change Calls _ _ _ (x3.alloc (.cells (litZ n3) 40)) _; rw [← HV.out])
  clear HV HM
  go_wp2_with fail
  refine (some_lit w11).mono ?_
  rintro e x4 ⟨rfl, hS, hB⟩
  obtain ⟨n4, hn⟩ : ∃ n, n = w11.heap.size := ⟨_, rfl⟩
  rw [← hn] at hS ⊢
  obtain ⟨m4, hm⟩ : ∃ m, m = x4.heap.size := ⟨_, rfl⟩
  obtain ⟨V, hV⟩ : ∃ V, V = x4.alloc (.cells (litC n4) 40) := ⟨_, rfl⟩
  have hbv : Below x4.heap.size x4 V := by rw [hV]; exact (Below.refl _ x4).alloc (Nat.le_refl _) _
  have hSV : SomeAt V n4 := hS.next hbv
  have hbox : TarBox V m4 (someT n4) := by rw [hV, hm]; exact heap_alloc_new x4 _
  have hsv : V.heap.size = m4 + 1 := by rw [hV, hm]; exact World.size_alloc _ _
  have hlt : n4 + 6 < m4 := by rw [hm]; exact hS.lt
  have hbWV : Below w11.heap.size w11 V := hB.trans (hbv.mono hB.size)
  have d : V.cell? ⟨n4 + 6, 0, none⟩ = some (.int .i64 0) := cell_of_row _ _ 0 _ _ _ hSV.b6
  have yf := frozen_of_row V (n4 + 6) 0 _ _ hSV.b6
  have hsc : ∀ j, j ≠ n4 + 6 → (V.setCell ⟨n4 + 6, 0, none⟩ (.int .i64 100)).heap[j]? = V.heap[j]? := fun j hj => heap_setCell_other V ⟨n4 + 6, 0, none⟩ j _ hj
  have hbN : Below w11.heap.size w11 (V.setCell ⟨n4 + 6, 0, none⟩ (.int .i64 100)) := hbWV.setCell (p := ⟨n4 + 6, 0, none⟩) (by show w11.heap.size ≤ n4 + 6; omega) _
  obtain ⟨w13, hw13⟩ : ∃ W, W = V.setCell ⟨n4 + 6, 0, none⟩ (.int .i64 100) := ⟨_, rfl⟩
  have hF : SomeF w13 n4 100 ps8 := by rw [hw13]; exact hSV.setW
  have hs13 : w13.heap.size = m4 + 1 := by rw [hw13]; simp; exact hsv
  have G4 := Lib.hid (show Got w13 w13.heap.size m4 (someG n4 100 ps8) from ⟨by rw [hw13]; exact (hsc m4 (by omega)).trans hbox, by omega, hF.tar (by decide) (fun j p hp => hp)⟩)
  rw [← hw13] at hbN
  have GXk := Lib.hid (GX.out.next (hbN.mono GX.out.at_.ns))
  clear GX
  have GX := GXk
  clear GXk
  have G2k := Lib.hid (G2.out.next (hbN.mono G2.out.at_.ns))
  clear G2
  have G2 := G2k
  clear G2k
  have G3k := Lib.hid (G3.out.next (hbN.mono G3.out.at_.ns))
  clear G3
  have G3 := G3k
  clear G3k
  have HB13 := Lib.hid (bel_next HB11.out HB11.out.size hbN)
  clear HB11
  have hr13 : (V.setCell ⟨n4 + 6, 0, none⟩ (.int .i64 100)).heap[m4]? = some (.cells (litC n4) 40 (0, 0)) := (hsc m4 (by omega)).trans hbox
  have e0 := cell_of_row _ _ 0 _ _ _ hr13
  have e1 := cell_of_row _ _ 1 _ _ _ hr13
  have e2 := cell_of_row _ _ 2 _ _ _ hr13
  have e3 := cell_of_row _ _ 3 _ _ _ hr13
  have e4 := cell_of_row _ _ 4 _ _ _ hr13
  have e5 := cell_of_row _ _ 5 _ _ _ hr13
  have e6 := cell_of_row _ _ 6 _ _ _ hr13
  rw [hV] at d yf hw13
  rw [hV, hm] at e0 e1 e2 e3 e4 e5 e6
  have HW13 := Lib.hid hw13
  have HM := Lib.hid hm
  clear hbv hSV hbox hsv hlt hbWV hsc hbN hS hB hF hs13 hw13 hV hm hn hr13
  replace e0 := e0.trans (show _ = some (Value.int .i64 3600) from rfl)
  replace e1 := e1.trans (show _ = some (Value.slice none 0 0) from rfl)
  replace e2 := e2.trans (show _ = some (Value.slice none 0 0) from rfl)
  replace e3 := e3.trans (show _ = some (Value.slice none 0 0) from rfl)
  replace e4 := e4.trans (show _ = some (Value.slice (some ⟨n4 + 3, 0, none⟩) 2 2) from rfl)
  replace e5 := e5.trans (show _ = some (Value.slice (some ⟨n4 + 4, 0, none⟩) 1 1) from rfl)
  replace e6 := e6.trans (show _ = some (Value.slice (some ⟨n4 + 6, 0, none⟩) 1 1) from rfl)
  go_wp2_with fail
  clear d yf e0 e1 e2 e3 e4 e5 e6
  rw [← HM.out]
  first
    | rw [← HW13.out]
    | (change Calls _ _ _ ((x4.alloc (.cells (litC n4) 40)).setCell ⟨n4 + 6, 0, none⟩ (.int .i64 100)) _; rw [← HW13.out])
  refine (at_ok (someG n4 100 ps8) 99 w13 G4.out.up (someG_len _ _ _) (HTT.out.next HB13.out) (someW_is n4) ex6).mono ?_
  rintro e w14 ⟨⟨s, k, mi, b, hbi, ⟨pr, hpr, _⟩ | ⟨hno, rfl⟩⟩, hB⟩
  · rw [price6] at hpr
    cases hpr
  clear HM HW13 G4 hno hbi s k mi b
  have GXk := Lib.hid (GX.out.next (hB.mono GX.out.at_.ns))
  clear GX
  have GX := GXk
  clear GXk
  have G2k := Lib.hid (G2.out.next (hB.mono G2.out.at_.ns))
  clear G2
  have G2 := G2k
  clear G2k
  have G3k := Lib.hid (G3.out.next (hB.mono G3.out.at_.ns))
  clear G3
  have G3 := G3k
  clear G3k
  have HB14 := Lib.hid (bel_next HB13.out HB13.out.size hB)
  clear hB HB13
  go_wp2_with fail
  refine (some_lit w14).mono ?_
  rintro e w15 ⟨rfl, hS, hB⟩
  obtain ⟨n5, hn⟩ : ∃ n, n = w14.heap.size := ⟨_, rfl⟩
  rw [← hn] at hS ⊢
  have HS := Lib.hid hS
  clear hS hn
  have GXk := Lib.hid (GX.out.next (hB.mono GX.out.at_.ns))
  clear GX
  have GX := GXk
  clear GXk
  have G2k := Lib.hid (G2.out.next (hB.mono G2.out.at_.ns))
  clear G2
  have G2 := G2k
  clear G2k
  have G3k := Lib.hid (G3.out.next (hB.mono G3.out.at_.ns))
  clear G3
  have G3 := G3k
  clear G3k
  have HB15 := Lib.hid (bel_next HB14.out HB14.out.size hB)
  clear hB HB14
  go_wp2_with fail
  refine (at_bad (someT n5) (-3601) w15 HS.out.tar (someT_len n5) (HTT.out.next HB15.out) 60 (.inr ⟨someT_is n5, by unfold In64; omega, ex5, rfl⟩)).mono ?_
  rintro e w16 ⟨rfl, hB⟩
  clear HS
  have GXk := Lib.hid (GX.out.next (hB.mono GX.out.at_.ns))
  clear GX
  have GX := GXk
  clear GXk
  have G2k := Lib.hid (G2.out.next (hB.mono G2.out.at_.ns))
  clear G2
  have G2 := G2k
  clear G2k
  have G3k := Lib.hid (G3.out.next (hB.mono G3.out.at_.ns))
  clear G3
  have G3 := G3k
  clear G3k
  have HB16 := Lib.hid (bel_next HB15.out HB15.out.size hB)
  clear hB HB15
  go_wp2_with fail
  refine (some_lit w16).mono ?_
  rintro e w17 ⟨rfl, hS, hB⟩
  obtain ⟨n6, hn⟩ : ∃ n, n = w16.heap.size := ⟨_, rfl⟩
  rw [← hn] at hS ⊢
  have HS := Lib.hid hS
  clear hS hn
  have GXk := Lib.hid (GX.out.next (hB.mono GX.out.at_.ns))
  clear GX
  have GX := GXk
  clear GXk
  have G2k := Lib.hid (G2.out.next (hB.mono G2.out.at_.ns))
  clear G2
  have G2 := G2k
  clear G2k
  have G3k := Lib.hid (G3.out.next (hB.mono G3.out.at_.ns))
  clear G3
  have G3 := G3k
  clear G3k
  have HB17 := Lib.hid (bel_next HB16.out HB16.out.size hB)
  clear hB HB16
  go_wp2_with fail
  refine (local_yes (someT n6) 259200 w17 HS.out.tar (someT_len n6) (HTT.out.next HB17.out) (someT_is n6) ex4.1).mono ?_
  rintro e w18 ⟨⟨s, k, mi, hl, rfl⟩, hB⟩
  obtain ⟨rfl, rfl, rfl⟩ := (loc4 n6).unique (someT_is n6) hl
  clear HS hl
  have GXk := Lib.hid (GX.out.next (hB.mono GX.out.at_.ns))
  clear GX
  have GX := GXk
  clear GXk
  have G2k := Lib.hid (G2.out.next (hB.mono G2.out.at_.ns))
  clear G2
  have G2 := G2k
  clear G2k
  have G3k := Lib.hid (G3.out.next (hB.mono G3.out.at_.ns))
  clear G3
  have G3 := G3k
  clear G3k
  have HB18 := Lib.hid (bel_next HB17.out HB17.out.size hB)
  clear hB HB17
  go_wp2_with fail
  refine (some_lit w18).mono ?_
  rintro e w19 ⟨rfl, hS, hB⟩
  obtain ⟨n7, hn⟩ : ∃ n, n = w18.heap.size := ⟨_, rfl⟩
  rw [← hn] at hS ⊢
  have HS := Lib.hid hS
  clear hS hn
  have GXk := Lib.hid (GX.out.next (hB.mono GX.out.at_.ns))
  clear GX
  have GX := GXk
  clear GXk
  have G2k := Lib.hid (G2.out.next (hB.mono G2.out.at_.ns))
  clear G2
  have G2 := G2k
  clear G2k
  have G3k := Lib.hid (G3.out.next (hB.mono G3.out.at_.ns))
  clear G3
  have G3 := G3k
  clear G3k
  have HB19 := Lib.hid (bel_next HB18.out HB18.out.size hB)
  clear hB HB18
  go_wp2_with fail
  refine (tcheck_any (someT n7) w19 HS.out.tar (someT_len n7) (HTT.out.next HB19.out)).mono ?_
  rintro e w20 ⟨rfl, hB⟩
  rw [tarE_yes (someT_is n7)]
  clear HS
  have GXk := Lib.hid (GX.out.next (hB.mono GX.out.at_.ns))
  clear GX
  have GX := GXk
  clear GXk
  have G2k := Lib.hid (G2.out.next (hB.mono G2.out.at_.ns))
  clear G2
  have G2 := G2k
  clear G2k
  have G3k := Lib.hid (G3.out.next (hB.mono G3.out.at_.ns))
  clear G3
  have G3 := G3k
  clear G3k
  have HB20 := Lib.hid (bel_next HB19.out HB19.out.size hB)
  clear hB HB19
  obtain ⟨c0, c1, c2, c3, c4, c5, c6⟩ := GX.out.box.cells
  go_wp2_with fail
  refine (tcheck_any (someG n1 0 ps7) w20 GX.out.up (someG_len _ _ _) (HTT.out.next HB20.out)).mono ?_
  rintro e w21 ⟨rfl, hB⟩
  rw [someX_e]
  clear c0 c1 c2 c3 c4 c5 c6
  clear GX
  have G2k := Lib.hid (G2.out.next (hB.mono G2.out.at_.ns))
  clear G2
  have G2 := G2k
  clear G2k
  have G3k := Lib.hid (G3.out.next (hB.mono G3.out.at_.ns))
  clear G3
  have G3 := G3k
  clear G3k
  have HB21 := Lib.hid (bel_next HB20.out HB20.out.size hB)
  clear hB HB20
  obtain ⟨c0, c1, c2, c3, c4, c5, c6⟩ := G2.out.box.cells
  go_wp2_with fail
  refine (tcheck_any (someY n2) w21 G2.out.up (someY_len _) (HTT.out.next HB21.out)).mono ?_
  rintro e w22 ⟨rfl, hB⟩
  rw [someY_e]
  clear c0 c1 c2 c3 c4 c5 c6
  clear G2
  have G3k := Lib.hid (G3.out.next (hB.mono G3.out.at_.ns))
  clear G3
  have G3 := G3k
  clear G3k
  have HB22 := Lib.hid (bel_next HB21.out HB21.out.size hB)
  clear hB HB21
  obtain ⟨c0, c1, c2, c3, c4, c5, c6⟩ := G3.out.box.cells
  go_wp2_with fail
  refine (tcheck_any (someZ n3) w22 G3.out.up (someZ_len _) (HTT.out.next HB22.out)).mono ?_
  rintro e w23 ⟨rfl, hB⟩
  rw [someZ_e]
  clear c0 c1 c2 c3 c4 c5 c6
  clear G3
  have HB23 := Lib.hid (bel_next HB22.out HB22.out.size hB)
  clear hB HB22
  have HP0 := Lib.hid (PAt.new w23 54 (fun _ => 0))
  have HB24 := Lib.hid (HB23.out.alloc HB23.out.size (.cells zeroP 54))
  have HQ := Lib.hid HB23.out.size
  clear HB23
  go_wp2_with (refine build_purse rfl rfl ?_)
  refine (pay_nil _ 0 0 0 0).mono ?_
  rintro e w24 ⟨rfl, hw24⟩
  obtain ⟨q, hq⟩ : ∃ q, q = w23.heap.size := ⟨_, rfl⟩
  have HP1 := Lib.hid (show PAt 54 w24 q (fun _ => 0) by rw [← hw24, hq]; exact HP0.out)
  have HB25 := Lib.hid (show Below w.heap.size w w24 by rw [← hw24]; exact HB24.out)
  have HQ1 := Lib.hid (show w.heap.size ≤ q by rw [hq]; exact HQ.out)
  have HQQ := Lib.hid hq
  clear HP0 HB24 HQ hw24 hq
  go_wp2_with fail
  rw [← HQQ.out]
  refine (pay_any q (fun _ => 0) 64 0 0 0 w24 HP1.out Rests.zero).mono ?_
  rintro e w26 ⟨rfl, hP, hG⟩
  rw [payV_2 (by decide), payE_2 (by decide)]
  have HB26 := Lib.hid (below_grown HB25.out hG HB25.out.size HQ1.out)
  have HP2 := Lib.hid hP
  have HF2 := Lib.hid (Rests.zero.pay 64 0 0 0)
  clear hP hG HB25 HP1 HQQ
  generalize payF (fun _ => 0) 64 0 0 0 = F2 at *
  go_wp2_with fail
  refine (pay_any q F2 0 0 0 1073741825 w26 HP2.out HF2.out).mono ?_
  rintro e w27 ⟨rfl, hP, hG⟩
  rw [payV_2 (by decide), payE_2 (by decide)]
  have HB27 := Lib.hid (below_grown HB26.out hG HB26.out.size HQ1.out)
  have HP3 := Lib.hid hP
  clear hP hG HB26 HP2 HF2
  generalize payF F2 0 0 0 1073741825 = F3 at *
  go_wp2_with fail
  refine (alive_any w27 (HTT.out.next HB27.out)).mono ?_
  rintro e w28 ⟨rfl, hB⟩
  have HP4 := Lib.hid (HP3.out.next hB)
  have HB28 := Lib.hid (bel_next HB27.out HB27.out.size hB)
  clear hB HB27 HP3
  go_wp2_with fail
  refine (back_nil w28 0 0 0).mono ?_
  rintro e _ ⟨rfl, rfl⟩
  go_wp2_with fail
  refine (back_any q F3 0 0 1000000 w28 HP4.out).mono ?_
  rintro e w29 ⟨rfl, hP, hG⟩
  rw [show backE 0 0 1000000 = 2 by decide]
  have HB29 := Lib.hid (below_grown HB28.out hG HB28.out.size HQ1.out)
  have HP5 := Lib.hid hP
  clear hP hG HB28 HP4
  generalize backF F3 0 0 1000000 = F4 at *
  go_wp2_with fail
  refine (back_any q F4 0 8 0 w29 HP5.out).mono ?_
  rintro e w30 ⟨rfl, hP, hG⟩
  rw [show backE 0 8 0 = 2 by decide]
  have HB30 := Lib.hid (below_grown HB29.out hG HB29.out.size HQ1.out)
  clear hP hG HB29 HP5
  go_wp2_with fail
  refine (rest_nil w30 0 0).mono ?_
  rintro e _ ⟨rfl, rfl⟩
  go_wp2_with fail
  refine (copy_nil w30).mono ?_
  rintro e _ ⟨rfl, rfl⟩
  go_wp2
  go_ret
  exact ⟨rfl, HB30.out⟩
end Go.Proofs.YtbffmobjiiicoaaDoor
