/- TariffAlike, walked. -/
import Derived.Test.YtbffmobjiiicoaaDoorTAlive
import Derived.Test.YtbffmobjiiicoaaDoorTGreat
set_option linter.unusedVariables false
set_option linter.unusedSimpArgs false
namespace Go.Proofs.YtbffmobjiiicoaaDoor
open Go.RowKit Go.Shelf
structure Bx (w W : World) (x : Ta) : Prop where
  b : TarBox W w.heap.size x
  a : TarAt W.heap.size W x
  t : Tabs W
  o : Below w.heap.size w W
theorem Bx.next {w W X : World} {x : Ta} (h : Bx w W x) (hB : Below W.heap.size W X) : Bx w X x := ⟨h.b.next hB, h.a.up hB, h.t.next hB, h.o.trans (hB.mono h.o.size)⟩
theorem band_alike {x : Ta} {t u s k mi b b' : Int} (h : BandIs x t s k mi b) (h' : BandIs x u s k mi b') : b = b' := by
  obtain ⟨_, p, _, h2, rfl⟩ := h
  obtain ⟨_, p', _, h2', rfl⟩ := h'
  have e := h2.unique h2'
  obtain rfl : p = p' := by omega
  rfl
theorem price_alike {l : List V10.Ve} {t u b p q i k : Int} (hp : V10.priceO l t b = some p) (hq : V10.priceO l u b = some q) (hi : V10.atO l t = some i) (hk : V10.atO l u = some k) (e : i = k) : p = q := by
  unfold V10.atO at hi hk
  unfold V10.priceO V10.verO at hp hq
  split at hi
  · split at hk
    · rename_i h1 h2
      rw [if_pos h1] at hp
      rw [if_pos h2] at hq
      simp only [Option.some.injEq] at hi hk
      have : V10.cnt l t = V10.cnt l u := by omega
      rw [this] at hp
      rw [hp] at hq
      exact Option.some.inj hq
    · cases hk
  · cases hi
theorem at_some {l : List V10.Ve} {t b p : Int} (hp : V10.priceO l t b = some p) : ∃ i, V10.atO l t = some i := by
  unfold V10.priceO V10.verO at hp
  unfold V10.atO
  split at hp
  · rename_i h; exact ⟨_, if_pos h⟩
  · simp at hp
set_option maxRecDepth 20000 in
set_option maxHeartbeats 4000000 in
theorem alikeW (x : Ta) (t u : Int) (w : World) (hT : Tabs w) (w0 : TarAt w.heap.size w x ∧ TarCap x) (w1 : (Lit.int .i64 t).wf = true) (w2 : (Lit.int .i64 u).wf = true) :
    Calls Tryd.prog 5 #[tarV x, .int .i64 t, .int .i64 u] w fun e w' => e = .returned (.bool true) ∧ Below w.heap.size w w' := by
  obtain ⟨hA, hC⟩ := w0
  have ht : In64 t := by simp [Lit.wf, IntKind.min, IntKind.max, IntKind.bits, IntKind.signed] at w1; exact w1
  have hu : In64 u := by simp [Lit.wf, IntKind.min, IntKind.max, IntKind.bits, IntKind.signed] at w2; exact w2
  have HT64 := Lib.hid ht
  have HU64 := Lib.hid hu
  have hB0 := (Below.refl w.heap.size w).alloc (Nat.le_refl _) (.cells (tarC x) 40)
  have S0 := Lib.hid (show Bx w (w.alloc (.cells (tarC x) 40)) x from ⟨heap_alloc_new w _, hA.up hB0, hT.next hB0, hB0⟩)
  have HC := Lib.hid hC
  clear hA hC hB0 hT ht hu w1 w2
  go_enter Tryd.func5, Tryd.ntmps5
  go_wp2_with fail
  refine (alive_any _ S0.out.t).mono ?_
  rintro e X1 ⟨rfl, hB⟩
  have S1 := Lib.hid (S0.out.next hB)
  obtain ⟨c0, c1, c2, c3, c4, c5, c6⟩ := S1.out.b.cells
  clear hB
  go_wp2_with fail
  refine (great_any x X1 S1.out.a HC.out).mono ?_
  rintro e X2 ⟨rfl | ⟨rfl, hsm⟩, hB⟩
  · have S2 := Lib.hid (S1.out.next hB)
    clear hB
    go_wp2
    go_ret
    exact ⟨rfl, S2.out.o⟩
  have HL := Lib.hid (HC.out.len (by have := hsm.1.1; omega))
  clear hsm
  have S2 := Lib.hid (S1.out.next hB)
  clear hB c0 c1 c2 c3 c4 c5 c6
  obtain ⟨c0, c1, c2, c3, c4, c5, c6⟩ := S2.out.b.cells
  by_cases hE : tarE x = 0
  case neg =>
    have h0 : (tarE x != 0) = true := by simpa using hE
    have h0' : (tarE x == 0) = false := by simpa using hE
    generalize hEE : tarE x = E at *
    have HE := Lib.hid hEE
    clear hE hEE
    go_wp2_with fail
    refine (local_bad x t X2 S2.out.a HL.out S2.out.t E HE.out h0).mono ?_
    rintro e X3 ⟨rfl, hB⟩
    have S3 := Lib.hid (S2.out.next hB)
    clear hB c0 c1 c2 c3 c4 c5 c6
    obtain ⟨c0, c1, c2, c3, c4, c5, c6⟩ := S3.out.b.cells
    go_wp2_with fail
    refine (local_bad x u X3 S3.out.a HL.out S3.out.t E HE.out h0).mono ?_
    rintro e X4 ⟨rfl, hB⟩
    have S4 := Lib.hid (S3.out.next hB)
    clear hB c0 c1 c2 c3 c4 c5 c6
    obtain ⟨c0, c1, c2, c3, c4, c5, c6⟩ := S4.out.b.cells
    go_wp2_with fail
    refine (at_bad x t X4 S4.out.a HL.out S4.out.t E (.inl ⟨HE.out, h0⟩)).mono ?_
    rintro e X5 ⟨rfl, hB⟩
    have S5 := Lib.hid (S4.out.next hB)
    clear hB c0 c1 c2 c3 c4 c5 c6
    obtain ⟨c0, c1, c2, c3, c4, c5, c6⟩ := S5.out.b.cells
    go_wp2_with fail
    refine (at_bad x u X5 S5.out.a HL.out S5.out.t E (.inl ⟨HE.out, h0⟩)).mono ?_
    rintro e X6 ⟨rfl, hB⟩
    have S6 := Lib.hid (S5.out.next hB)
    clear hB c0 c1 c2 c3 c4 c5 c6
    obtain ⟨c0, c1, c2, c3, c4, c5, c6⟩ := S6.out.b.cells
    go_wp2
    go_ret
    exact ⟨rfl, S6.out.o⟩
  have HX := Lib.hid (tarE_no hE)
  clear hE
  by_cases hot : OffT x t
  case neg =>
    have Ht := Lib.hid hot
    clear hot
    by_cases hou : OffT x u
    case neg =>
      have Hu := Lib.hid hou
      clear hou
      go_wp2_with fail
      refine (local_no x t X2 S2.out.a HL.out S2.out.t HX.out HT64.out Ht.out).mono ?_
      rintro e X3 ⟨rfl, hB⟩
      have S3 := Lib.hid (S2.out.next hB)
      clear hB c0 c1 c2 c3 c4 c5 c6
      obtain ⟨c0, c1, c2, c3, c4, c5, c6⟩ := S3.out.b.cells
      go_wp2_with fail
      refine (local_no x u X3 S3.out.a HL.out S3.out.t HX.out HU64.out Hu.out).mono ?_
      rintro e X4 ⟨rfl, hB⟩
      have S4 := Lib.hid (S3.out.next hB)
      clear hB c0 c1 c2 c3 c4 c5 c6
      obtain ⟨c0, c1, c2, c3, c4, c5, c6⟩ := S4.out.b.cells
      go_wp2_with fail
      refine (at_bad x t X4 S4.out.a HL.out S4.out.t 60 (.inr ⟨HX.out, HT64.out, Ht.out, rfl⟩)).mono ?_
      rintro e X5 ⟨rfl, hB⟩
      have S5 := Lib.hid (S4.out.next hB)
      clear hB c0 c1 c2 c3 c4 c5 c6
      obtain ⟨c0, c1, c2, c3, c4, c5, c6⟩ := S5.out.b.cells
      go_wp2_with fail
      refine (at_bad x u X5 S5.out.a HL.out S5.out.t 60 (.inr ⟨HX.out, HU64.out, Hu.out, rfl⟩)).mono ?_
      rintro e X6 ⟨rfl, hB⟩
      have S6 := Lib.hid (S5.out.next hB)
      clear hB c0 c1 c2 c3 c4 c5 c6
      obtain ⟨c0, c1, c2, c3, c4, c5, c6⟩ := S6.out.b.cells
      go_wp2
      go_ret
      exact ⟨rfl, S6.out.o⟩
    have Hu := Lib.hid hou
    clear hou
    go_wp2_with fail
    refine (local_no x t X2 S2.out.a HL.out S2.out.t HX.out HT64.out Ht.out).mono ?_
    rintro e X3 ⟨rfl, hB⟩
    have S3 := Lib.hid (S2.out.next hB)
    clear hB c0 c1 c2 c3 c4 c5 c6
    obtain ⟨c0, c1, c2, c3, c4, c5, c6⟩ := S3.out.b.cells
    go_wp2_with fail
    refine (local_yes x u X3 S3.out.a HL.out S3.out.t HX.out Hu.out).mono ?_
    rintro e X4 ⟨⟨sb, kb, mb, hl, rfl⟩, hB⟩
    have HLb := Lib.hid hl
    clear hl
    have S4 := Lib.hid (S3.out.next hB)
    clear hB c0 c1 c2 c3 c4 c5 c6
    obtain ⟨c0, c1, c2, c3, c4, c5, c6⟩ := S4.out.b.cells
    go_wp2_with fail
    refine (at_bad x t X4 S4.out.a HL.out S4.out.t 60 (.inr ⟨HX.out, HT64.out, Ht.out, rfl⟩)).mono ?_
    rintro e X5 ⟨rfl, hB⟩
    have S5 := Lib.hid (S4.out.next hB)
    clear hB c0 c1 c2 c3 c4 c5 c6
    obtain ⟨c0, c1, c2, c3, c4, c5, c6⟩ := S5.out.b.cells
    go_wp2_with fail
    refine (at_ok x u X5 S5.out.a HL.out S5.out.t HX.out Hu.out).mono ?_
    rintro e X6 ⟨⟨sb', kb', mb', bb, hbi, ⟨prb, hpr, rfl⟩ | ⟨hpr, rfl⟩⟩, hB⟩
    ·
      obtain ⟨rfl, rfl, rfl⟩ := HLb.out.unique HX.out hbi.1
      have HBb := Lib.hid hbi
      have HPb := Lib.hid hpr
      clear hbi hpr
      have S6 := Lib.hid (S5.out.next hB)
      clear hB c0 c1 c2 c3 c4 c5 c6
      obtain ⟨c0, c1, c2, c3, c4, c5, c6⟩ := S6.out.b.cells
      go_wp2
      go_ret
      exact ⟨rfl, S6.out.o⟩
    ·
      obtain ⟨rfl, rfl, rfl⟩ := HLb.out.unique HX.out hbi.1
      have HBb := Lib.hid hbi
      have HPb := Lib.hid hpr
      clear hbi hpr
      have S6 := Lib.hid (S5.out.next hB)
      clear hB c0 c1 c2 c3 c4 c5 c6
      obtain ⟨c0, c1, c2, c3, c4, c5, c6⟩ := S6.out.b.cells
      go_wp2
      go_ret
      exact ⟨rfl, S6.out.o⟩
  have Ht := Lib.hid hot
  clear hot
  by_cases hou : OffT x u
  case neg =>
    have Hu := Lib.hid hou
    clear hou
    go_wp2_with fail
    refine (local_yes x t X2 S2.out.a HL.out S2.out.t HX.out Ht.out).mono ?_
    rintro e X3 ⟨⟨sa, ka, ma, hl, rfl⟩, hB⟩
    have HLa := Lib.hid hl
    clear hl
    have S3 := Lib.hid (S2.out.next hB)
    clear hB c0 c1 c2 c3 c4 c5 c6
    obtain ⟨c0, c1, c2, c3, c4, c5, c6⟩ := S3.out.b.cells
    go_wp2_with fail
    refine (local_no x u X3 S3.out.a HL.out S3.out.t HX.out HU64.out Hu.out).mono ?_
    rintro e X4 ⟨rfl, hB⟩
    have S4 := Lib.hid (S3.out.next hB)
    clear hB c0 c1 c2 c3 c4 c5 c6
    obtain ⟨c0, c1, c2, c3, c4, c5, c6⟩ := S4.out.b.cells
    go_wp2_with fail
    refine (at_ok x t X4 S4.out.a HL.out S4.out.t HX.out Ht.out).mono ?_
    rintro e X5 ⟨⟨sa', ka', ma', ba, hbi, ⟨pra, hpr, rfl⟩ | ⟨hpr, rfl⟩⟩, hB⟩
    ·
      obtain ⟨rfl, rfl, rfl⟩ := HLa.out.unique HX.out hbi.1
      have HBa := Lib.hid hbi
      have HPa := Lib.hid hpr
      clear hbi hpr
      have S5 := Lib.hid (S4.out.next hB)
      clear hB c0 c1 c2 c3 c4 c5 c6
      obtain ⟨c0, c1, c2, c3, c4, c5, c6⟩ := S5.out.b.cells
      go_wp2_with fail
      refine (at_bad x u X5 S5.out.a HL.out S5.out.t 60 (.inr ⟨HX.out, HU64.out, Hu.out, rfl⟩)).mono ?_
      rintro e X6 ⟨rfl, hB⟩
      have S6 := Lib.hid (S5.out.next hB)
      clear hB c0 c1 c2 c3 c4 c5 c6
      obtain ⟨c0, c1, c2, c3, c4, c5, c6⟩ := S6.out.b.cells
      go_wp2
      go_ret
      exact ⟨rfl, S6.out.o⟩
    ·
      obtain ⟨rfl, rfl, rfl⟩ := HLa.out.unique HX.out hbi.1
      have HBa := Lib.hid hbi
      have HPa := Lib.hid hpr
      clear hbi hpr
      have S5 := Lib.hid (S4.out.next hB)
      clear hB c0 c1 c2 c3 c4 c5 c6
      obtain ⟨c0, c1, c2, c3, c4, c5, c6⟩ := S5.out.b.cells
      go_wp2_with fail
      refine (at_bad x u X5 S5.out.a HL.out S5.out.t 60 (.inr ⟨HX.out, HU64.out, Hu.out, rfl⟩)).mono ?_
      rintro e X6 ⟨rfl, hB⟩
      have S6 := Lib.hid (S5.out.next hB)
      clear hB c0 c1 c2 c3 c4 c5 c6
      obtain ⟨c0, c1, c2, c3, c4, c5, c6⟩ := S6.out.b.cells
      go_wp2
      go_ret
      exact ⟨rfl, S6.out.o⟩
  have Hu := Lib.hid hou
  clear hou
  go_wp2_with fail
  refine (local_yes x t X2 S2.out.a HL.out S2.out.t HX.out Ht.out).mono ?_
  rintro e X3 ⟨⟨sa, ka, ma, hl, rfl⟩, hB⟩
  have HLa := Lib.hid hl
  clear hl
  have S3 := Lib.hid (S2.out.next hB)
  clear hB c0 c1 c2 c3 c4 c5 c6
  obtain ⟨c0, c1, c2, c3, c4, c5, c6⟩ := S3.out.b.cells
  go_wp2_with fail
  refine (local_yes x u X3 S3.out.a HL.out S3.out.t HX.out Hu.out).mono ?_
  rintro e X4 ⟨⟨sb, kb, mb, hl, rfl⟩, hB⟩
  have HLb := Lib.hid hl
  clear hl
  have S4 := Lib.hid (S3.out.next hB)
  clear hB c0 c1 c2 c3 c4 c5 c6
  obtain ⟨c0, c1, c2, c3, c4, c5, c6⟩ := S4.out.b.cells
  go_wp2_with fail
  refine (at_ok x t X4 S4.out.a HL.out S4.out.t HX.out Ht.out).mono ?_
  rintro e X5 ⟨⟨sa', ka', ma', ba, hbi, ⟨pra, hpr, rfl⟩ | ⟨hpr, rfl⟩⟩, hB⟩
  ·
    obtain ⟨rfl, rfl, rfl⟩ := HLa.out.unique HX.out hbi.1
    have HBa := Lib.hid hbi
    have HPa := Lib.hid hpr
    clear hbi hpr
    have S5 := Lib.hid (S4.out.next hB)
    clear hB c0 c1 c2 c3 c4 c5 c6
    obtain ⟨c0, c1, c2, c3, c4, c5, c6⟩ := S5.out.b.cells
    go_wp2_with fail
    refine (at_ok x u X5 S5.out.a HL.out S5.out.t HX.out Hu.out).mono ?_
    rintro e X6 ⟨⟨sb', kb', mb', bb, hbi, ⟨prb, hpr, rfl⟩ | ⟨hpr, rfl⟩⟩, hB⟩
    ·
      obtain ⟨rfl, rfl, rfl⟩ := HLb.out.unique HX.out hbi.1
      have HBb := Lib.hid hbi
      have HPb := Lib.hid hpr
      clear hbi hpr
      have S6 := Lib.hid (S5.out.next hB)
      clear hB c0 c1 c2 c3 c4 c5 c6
      obtain ⟨c0, c1, c2, c3, c4, c5, c6⟩ := S6.out.b.cells
      obtain ⟨ia, hia⟩ := at_some HPa.out
      obtain ⟨ib, hib⟩ := at_some HPb.out
      have HIA := Lib.hid hia
      have HIB := Lib.hid hib
      have hm := (HLa.out.bounds HX.out).2.2
      have m0 : decide (ma < 0) = false := by unfold B9.InDay at hm; simp; omega
      have m1 : decide (1440 ≤ ma) = false := by unfold B9.InDay at hm; simp; omega
      clear hm hia hib
      by_cases e1 : sa = sb
      case neg =>
        have e1' : (sa != sb) = true := by simpa using e1
        clear e1
        go_wp2
        go_ret
        exact ⟨rfl, S6.out.o⟩
      by_cases e2 : ka = kb
      case neg =>
        have e1' : (sa != sb) = false := by simpa using e1
        have e2' : (ka != kb) = true := by simpa using e2
        clear e1 e2
        go_wp2
        go_ret
        exact ⟨rfl, S6.out.o⟩
      by_cases e3 : ma = mb
      case neg =>
        have e1' : (sa != sb) = false := by simpa using e1
        have e2' : (ka != kb) = false := by simpa using e2
        have e3' : (ma != mb) = true := by simpa using e3
        clear e1 e2 e3
        go_wp2
        go_ret
        exact ⟨rfl, S6.out.o⟩
      subst e1 e2 e3
      obtain rfl : ba = bb := band_alike HBa.out HBb.out
      have hpp := price_alike HPa.out HPb.out HIA.out HIB.out
      go_wp2_with fail
      refine (V10.at_any x.va x.l.length x.vc x.l rfl t X6 S6.out.a.v HL.out.v).mono ?_
      rintro e X7 ⟨rfl, hB⟩
      rw [HIA.out]
      rw [show V10.optV (some ia) = .tuple #[.int .i64 ia, .bool true] from rfl]
      have S7 := Lib.hid (S6.out.next hB)
      clear hB c0 c1 c2 c3 c4 c5 c6
      obtain ⟨c0, c1, c2, c3, c4, c5, c6⟩ := S7.out.b.cells
      go_wp2_with fail
      refine (V10.at_any x.va x.l.length x.vc x.l rfl u X7 S7.out.a.v HL.out.v).mono ?_
      rintro e X8 ⟨rfl, hB⟩
      rw [HIB.out]
      rw [show V10.optV (some ib) = .tuple #[.int .i64 ib, .bool true] from rfl]
      have S8 := Lib.hid (S7.out.next hB)
      clear hB c0 c1 c2 c3 c4 c5 c6
      obtain ⟨c0, c1, c2, c3, c4, c5, c6⟩ := S8.out.b.cells
      by_cases e4 : ia = ib
      · obtain rfl := hpp e4
        have e4' : (ia != ib) = false := by simpa using e4
        clear e4 hpp
        go_wp2
        go_ret
        exact ⟨rfl, S8.out.o⟩
      · have e4' : (ia != ib) = true := by simpa using e4
        clear e4 hpp
        go_wp2
        go_ret
        exact ⟨rfl, S8.out.o⟩
    ·
      obtain ⟨rfl, rfl, rfl⟩ := HLb.out.unique HX.out hbi.1
      have HBb := Lib.hid hbi
      have HPb := Lib.hid hpr
      clear hbi hpr
      have S6 := Lib.hid (S5.out.next hB)
      clear hB c0 c1 c2 c3 c4 c5 c6
      obtain ⟨c0, c1, c2, c3, c4, c5, c6⟩ := S6.out.b.cells
      go_wp2
      go_ret
      exact ⟨rfl, S6.out.o⟩
  ·
    obtain ⟨rfl, rfl, rfl⟩ := HLa.out.unique HX.out hbi.1
    have HBa := Lib.hid hbi
    have HPa := Lib.hid hpr
    clear hbi hpr
    have S5 := Lib.hid (S4.out.next hB)
    clear hB c0 c1 c2 c3 c4 c5 c6
    obtain ⟨c0, c1, c2, c3, c4, c5, c6⟩ := S5.out.b.cells
    go_wp2_with fail
    refine (at_ok x u X5 S5.out.a HL.out S5.out.t HX.out Hu.out).mono ?_
    rintro e X6 ⟨⟨sb', kb', mb', bb, hbi, ⟨prb, hpr, rfl⟩ | ⟨hpr, rfl⟩⟩, hB⟩
    ·
      obtain ⟨rfl, rfl, rfl⟩ := HLb.out.unique HX.out hbi.1
      have HBb := Lib.hid hbi
      have HPb := Lib.hid hpr
      clear hbi hpr
      have S6 := Lib.hid (S5.out.next hB)
      clear hB c0 c1 c2 c3 c4 c5 c6
      obtain ⟨c0, c1, c2, c3, c4, c5, c6⟩ := S6.out.b.cells
      go_wp2
      go_ret
      exact ⟨rfl, S6.out.o⟩
    ·
      obtain ⟨rfl, rfl, rfl⟩ := HLb.out.unique HX.out hbi.1
      have HBb := Lib.hid hbi
      have HPb := Lib.hid hpr
      clear hbi hpr
      have S6 := Lib.hid (S5.out.next hB)
      clear hB c0 c1 c2 c3 c4 c5 c6
      obtain ⟨c0, c1, c2, c3, c4, c5, c6⟩ := S6.out.b.cells
      go_wp2
      go_ret
      exact ⟨rfl, S6.out.o⟩
end Go.Proofs.YtbffmobjiiicoaaDoor
