/- The examples' tariffs, changed; calls on none; costs of the examples. -/
import Derived.Test.YtbffmobjiiicoaaDoorTAlive
import Derived.Test.YtbffmobjiiicoaaDoorPCost
set_option linter.unusedVariables false
set_option linter.unusedSimpArgs false
namespace Go.Proofs.YtbffmobjiiicoaaDoor
open Go.RowKit Go.Shelf
theorem tarN_3 {x : Ta} (h1 : ZoneIs x.off x.R x.zl) (h2 : H8.CalIs x.H x.hl x.S x.sl) (h3 : ¬ B9.TabIs x.P x.pl x.Q x.rl) : tarE x = 90 := by simp [tarE, firstE, zE_yes h1, H8.calE, h2, B9.tErr_no h3]
theorem tarN_5 {x : Ta} (h1 : ZoneIs x.off x.R x.zl) (h2 : H8.CalIs x.H x.hl x.S x.sl) (h3 : B9.TabIs x.P x.pl x.Q x.rl) (h4 : V10.TabMay x.l) (h5 : pE x.l = 110) : tarE x = 110 := by simp [tarE, firstE, zE_yes h1, H8.calE, h2, B9.tErr_yes h3, V10.tErr, h4, h5]
def ps8 : List Int := [100, 250, 0, 0, 0, 0, 0, 0]
def ps7 : List Int := [100, 250, 0, 0, 0, 0, 0]
def someG (n : Nat) (f : Int) (ps : List Int) : Ta := { someT n with l := [⟨f, ps⟩] }
def someY (n : Nat) : Ta := { someT n with va := none, vc := 0, l := [] }
def someZ (n : Nat) : Ta := { someT n with pa := none, pl := 0, pc := 0 }
theorem someG_len (n : Nat) (f : Int) (ps : List Int) : TarLen (someG n f ps) := ⟨Nat.zero_le _, Nat.zero_le _, Nat.zero_le _, (show 2 ≤ maxLen by unfold maxLen; omega), (show 1 ≤ maxLen by unfold maxLen; omega), Nat.le_refl _, (show 1 ≤ maxLen by unfold maxLen; omega)⟩
theorem someY_len (n : Nat) : TarLen (someY n) := ⟨Nat.zero_le _, Nat.zero_le _, Nat.zero_le _, (show 2 ≤ maxLen by unfold maxLen; omega), (show 1 ≤ maxLen by unfold maxLen; omega), Nat.le_refl _, Nat.zero_le _⟩
theorem someZ_len (n : Nat) : TarLen (someZ n) := ⟨Nat.zero_le _, Nat.zero_le _, Nat.zero_le _, Nat.zero_le _, (show 1 ≤ maxLen by unfold maxLen; omega), Nat.le_refl _, (show 1 ≤ maxLen by unfold maxLen; omega)⟩
theorem someX_e (n : Nat) : tarE (someG n 0 ps7) = 110 := tarN_5 (x := someG n 0 ps7) (someT_is n).1 (someT_is n).2.1 (someT_is n).2.2.1 (show V10.TabMay [⟨0, ps7⟩] by decide) (if_neg (fun h => by
  have := h.2 ⟨0, ps7⟩ (List.mem_cons_self ..)
  exact absurd this (by decide)))
theorem someY_e (n : Nat) : tarE (someY n) = 110 := tarN_5 (x := someY n) (someT_is n).1 (someT_is n).2.1 (someT_is n).2.2.1 V10.tab_nil pE_nil
theorem someZ_e (n : Nat) : tarE (someZ n) = 90 := tarN_3 (x := someZ n) (someT_is n).1 (someT_is n).2.1 (fun h => absurd h.1 (show ¬ 1 ≤ 0 by decide))
theorem someW_is (n : Nat) : TarIs (someG n 100 ps8) := ⟨(someT_is n).1, (someT_is n).2.1, (someT_is n).2.2.1, (show V10.TabMay [⟨100, ps8⟩] by decide), List.cons_ne_nil _ _, fun v hv => by
  obtain rfl : v = ⟨100, ps8⟩ := by simpa [someG] using hv
  rfl⟩
/-- The example's tariff, but for the one version of its prices. -/
structure SomeF (W : World) (n : Nat) (f : Int) (ps : List Int) : Prop where
  b1 : W.heap[n + 1]? = some (.cells #[.int .i64 0, .int .i64 0, .int .i64 360, .int .i64 1] 76 (0, 0))
  b2 : W.heap[n + 2]? = some (.cells #[.int .i64 0, .int .i64 0] 76 (0, 0))
  b3 : W.heap[n + 3]? = some (.cells #[.slice (some ⟨n + 1, 0, none⟩) 2 2, .slice (some ⟨n + 2, 0, none⟩) 1 1] 77 (0, 0))
  b4 : W.heap[n + 4]? = some (.cells #[.int .i64 0, .int .i64 3, .int .i64 1] 79 (0, 0))
  b5 : W.heap[n + 5]? = some (.cells #[.int .i64 100, .int .i64 250, .int .i64 0, .int .i64 0, .int .i64 0, .int .i64 0, .int .i64 0, .int .i64 0] 2 (0, 0))
  b6 : W.heap[n + 6]? = some (.cells #[.int .i64 f, .slice (some ⟨n + 5, 0, none⟩) ps.length 8] 44 (0, 0))
theorem SomeF.lt {W : World} {n : Nat} {f : Int} {ps : List Int} (h : SomeF W n f ps) : n + 6 < W.heap.size := (Array.getElem?_eq_some_iff.1 h.b6).1
theorem SomeF.parts {W : World} {n : Nat} {f : Int} {ps : List Int} (h : SomeF W n f ps) : B9.PlsAt W.heap.size W (some ⟨n + 3, 0, none⟩) 2 (someP n) ∧ B9.RusAt W.heap.size W (some ⟨n + 4, 0, none⟩) 1 someQ := by
  have hs := h.lt
  refine ⟨fun i hi => ?_, fun i hi => ?_⟩
  · have hm : 2 ≤ maxLen := by unfold maxLen; omega
    rcases (show i = 0 ∨ i = 1 by omega) with rfl | rfl
    · refine ⟨n + 3, 0, rfl, by omega, cell_of_row _ _ 0 _ _ _ h.b3, ⟨Nat.le_refl _, hm⟩, fun j hj => ?_⟩
      rcases (show j = 0 ∨ j = 1 by have : j < 2 := hj; omega) with rfl | rfl
      · exact ⟨n + 1, 0, rfl, by omega, cell_of_row _ _ 0 _ _ _ h.b1, cell_of_row _ _ 1 _ _ _ h.b1⟩
      · exact ⟨n + 1, 0, rfl, by omega, cell_of_row _ _ 2 _ _ _ h.b1, cell_of_row _ _ 3 _ _ _ h.b1⟩
    · refine ⟨n + 3, 0, rfl, by omega, cell_of_row _ _ 1 _ _ _ h.b3, ⟨Nat.le_refl _, Nat.le_trans (show 1 ≤ 2 by decide) hm⟩, fun j hj => ?_⟩
      obtain rfl : j = 0 := by have : j < 1 := hj; omega
      exact ⟨n + 2, 0, rfl, by omega, cell_of_row _ _ 0 _ _ _ h.b2, cell_of_row _ _ 1 _ _ _ h.b2⟩
  · obtain rfl : i = 0 := by omega
    exact ⟨n + 4, 0, rfl, by omega, cell_of_row _ _ 0 _ _ _ h.b4, cell_of_row _ _ 1 _ _ _ h.b4, cell_of_row _ _ 2 _ _ _ h.b4⟩
theorem SomeF.tar {W : World} {n : Nat} {f : Int} {ps : List Int} (h : SomeF W n f ps) (h8 : ps.length ≤ 8) (hps : ∀ (j : Nat) (p : Int), ps[j]? = some p → ps8[j]? = some p) : TarAt W.heap.size W (someG n f ps) := by
  have hs := h.lt
  refine ⟨fun i hi => absurd hi (Nat.not_lt_zero _), fun i hi => absurd hi (Nat.not_lt_zero _), fun i hi => absurd hi (Nat.not_lt_zero _), h.parts.1, h.parts.2, fun i v hv => ?_, Nat.le_refl _⟩
  have hi : i = 0 := by
    have := (List.getElem?_eq_some_iff.1 hv).1
    have : i < 1 := this
    omega
  subst hi
  have hv' : some (⟨f, ps⟩ : V10.Ve) = some v := hv
  cases hv'
  refine ⟨n + 6, 0, some ⟨n + 5, 0, none⟩, 8, rfl, by omega, cell_of_row _ _ 0 _ _ _ h.b6, cell_of_row _ _ 1 _ _ _ h.b6, ⟨h8, by unfold maxLen; omega⟩, fun j p hp => ?_⟩
  have hj : j < 8 := Nat.lt_of_lt_of_le (List.getElem?_eq_some_iff.1 hp).1 h8
  have hp8 := hps j p hp
  refine ⟨n + 5, 0, rfl, by omega, ?_⟩
  rw [Nat.zero_add, cell_of_row _ _ j _ _ _ h.b5]
  rcases (show j = 0 ∨ j = 1 ∨ j = 2 ∨ j = 3 ∨ j = 4 ∨ j = 5 ∨ j = 6 ∨ j = 7 by omega) with rfl | rfl | rfl | rfl | rfl | rfl | rfl | rfl <;> (cases hp8; rfl)
theorem SomeAt.f {W : World} {n : Nat} (h : SomeAt W n) : SomeF W n 0 ps8 := ⟨h.b1, h.b2, h.b3, h.b4, h.b5, h.b6⟩
theorem SomeAt.setX {W : World} {n : Nat} (h : SomeAt W n) : SomeF (W.setCell ⟨n + 6, 1, none⟩ (.slice (some ⟨n + 5, 0, none⟩) 7 8)) n 0 ps7 := by
  have o : ∀ k, k ≠ n + 6 → (W.setCell ⟨n + 6, 1, none⟩ (.slice (some ⟨n + 5, 0, none⟩) 7 8)).heap[k]? = W.heap[k]? := fun k hk => heap_setCell_other W ⟨n + 6, 1, none⟩ k _ hk
  exact ⟨(o _ (by omega)).trans h.b1, (o _ (by omega)).trans h.b2, (o _ (by omega)).trans h.b3, (o _ (by omega)).trans h.b4, (o _ (by omega)).trans h.b5, heap_setCell_same W (n + 6) 1 _ _ _ h.b6⟩
theorem SomeAt.setW {W : World} {n : Nat} (h : SomeAt W n) : SomeF (W.setCell ⟨n + 6, 0, none⟩ (.int .i64 100)) n 100 ps8 := by
  have o : ∀ k, k ≠ n + 6 → (W.setCell ⟨n + 6, 0, none⟩ (.int .i64 100)).heap[k]? = W.heap[k]? := fun k hk => heap_setCell_other W ⟨n + 6, 0, none⟩ k _ hk
  exact ⟨(o _ (by omega)).trans h.b1, (o _ (by omega)).trans h.b2, (o _ (by omega)).trans h.b3, (o _ (by omega)).trans h.b4, (o _ (by omega)).trans h.b5, heap_setCell_same W (n + 6) 0 _ _ _ h.b6⟩
theorem SomeAt.kept {W X : World} {n : Nat} (h : SomeAt W n) (hk : ∀ k, k ≤ n + 6 → X.heap[k]? = W.heap[k]?) : SomeAt X n :=
  ⟨(hk _ (by omega)).trans h.b1, (hk _ (by omega)).trans h.b2, (hk _ (by omega)).trans h.b3, (hk _ (by omega)).trans h.b4, (hk _ (by omega)).trans h.b5, (hk _ (by omega)).trans h.b6⟩
theorem SomeAt.y {W : World} {n : Nat} (h : SomeAt W n) : TarAt W.heap.size W (someY n) :=
  ⟨fun i hi => absurd hi (Nat.not_lt_zero _), fun i hi => absurd hi (Nat.not_lt_zero _), fun i hi => absurd hi (Nat.not_lt_zero _), h.f.parts.1, h.f.parts.2, fun i v hv => (by cases hv), Nat.le_refl _⟩
theorem SomeAt.z {W : World} {n : Nat} (h : SomeAt W n) : TarAt W.heap.size W (someZ n) :=
  ⟨fun i hi => absurd hi (Nat.not_lt_zero _), fun i hi => absurd hi (Nat.not_lt_zero _), fun i hi => absurd hi (Nat.not_lt_zero _), fun i hi => absurd hi (Nat.not_lt_zero _), h.f.parts.2, h.tar.v, Nat.le_refl _⟩
/-- A tariff in a box, all of it below B. -/
structure Got (W : World) (B b : Nat) (x : Ta) : Prop where
  box : TarBox W b x
  lt : b < B
  at_ : TarAt B W x
theorem Got.next {W X : World} {B b : Nat} {x : Ta} (h : Got W B b x) (hB : Below B W X) : Got X B b x := ⟨(hB.block b h.lt).trans h.box, h.lt, h.at_.next hB⟩
theorem Got.up {W : World} {B b : Nat} {x : Ta} (h : Got W B b x) : TarAt W.heap.size W x := h.at_.mono h.at_.ns (Nat.le_refl _)
theorem ex4 : OffT (someT 0) 259200 ∧ IsDate (dayT (someT 0) 259200) 1970 1 4 ∧ H8.kindB (dayT (someT 0) 259200) (decide (dayT (someT 0) 259200 ∈ H8.hds (fun _ => ⟨0, 0, 0, 0, 0, 0⟩) 1970 0)) = 3 ∧ minT (someT 0) 259200 = 60 := by decide +kernel
theorem ex5 : ¬ OffT (someT 0) (-3601) := by decide +kernel
theorem ex6 : OffT (someT 0) 99 := by decide +kernel
theorem loc4 (n : Nat) : LocIs (someT n) 259200 0 3 60 := ⟨1970, 1, 4, ex4.2.1, .inl ⟨rfl, rfl⟩, ex4.2.2.1.symm, ex4.2.2.2.symm⟩
theorem price6 (n : Nat) (b : Int) : V10.priceO (someG n 100 ps8).l 99 b = none := V10.price_none (by
  show V10.verO [⟨100, ps8⟩] 99 = none
  decide)
theorem payE_2 {f : Nat → Int} {m b n p : Int} (h : ¬ PayArg m b n p) : payE f m b n p = 2 := by
  unfold payE
  rw [if_neg (fun q => h q.1), if_neg h]
theorem payV_2 {f : Nat → Int} {m b n p : Int} (h : ¬ PayArg m b n p) : payV f m b n p = 0 := if_neg (fun q => h q.1)
def ex1L (i : Nat) : Int × Int := if i = 0 then (3999, 250) else if i = 1 then (1, 250) else (10, 100)
def ex2L (_ : Nat) : Int × Int := (4611686018427387904, 1073741824)
def ex3L (i : Nat) : Int × Int := if i = 0 then (4611686018427387904, 1000000) else (1, 1000000)
def ex4L (_ : Nat) : Int × Int := (-1, 0)
theorem cost1 : CostIs ex1L 3 1 1000 0 := .inr ⟨by decide +kernel, .inl (by decide +kernel)⟩
theorem cost2 : CostIs ex2L 1 0 0 10 := .inl ⟨0, by decide, fun j hj => absurd hj (Nat.not_lt_zero _), by decide +kernel, by decide, rfl, rfl⟩
theorem cost3 : CostIs ex3L 2 0 0 10 := .inr ⟨by decide +kernel, .inr (by decide +kernel)⟩
theorem cost4 : CostIs ex4L 1 0 0 2 := .inl ⟨0, by decide, fun j hj => absurd hj (Nat.not_lt_zero _), by decide +kernel, by decide, rfl, rfl⟩
section
variable (w : World)
theorem pay_nil (m b n p : Int) : Calls Tryd.prog 12 #[.pointer none, .int .i64 m, .int .i64 b, .int .i64 n, .int .i64 p] w fun e w' => e = .returned (.tuple #[.int .i64 0, .int .i64 1]) ∧ w = w' := by
  go_enter Tryd.func12, Tryd.ntmps12
  go_wp2
  go_ret2
  exact ⟨rfl, rfl⟩
theorem back_nil (m b r : Int) : Calls Tryd.prog 14 #[.pointer none, .int .i64 m, .int .i64 b, .int .i64 r] w fun e w' => e = .returned (.int .i64 1) ∧ w = w' := by
  go_enter Tryd.func14, Tryd.ntmps14
  go_wp2
  go_ret
  exact ⟨rfl, rfl⟩
theorem rest_nil (m b : Int) : Calls Tryd.prog 15 #[.pointer none, .int .i64 m, .int .i64 b] w fun e w' => e = .returned (.int .i64 0) ∧ w = w' := by
  go_enter Tryd.func15, Tryd.ntmps15
  go_wp2
  go_ret
  exact ⟨rfl, rfl⟩
theorem copy_nil : Calls Tryd.prog 16 #[.pointer none] w fun e w' => e = .returned (.pointer none) ∧ w = w' := by
  go_enter Tryd.func16, Tryd.ntmps16
  go_wp2
  go_ret
  exact ⟨rfl, rfl⟩
end
/-- What some pairs cost, that lie in a block of their own. -/
theorem cost_lit {cs : Array Value} {T : TypeId} {b len : Nat} {L : Nat → Int × Int} {c r x : Int} (w : World) (hb : w.heap[b]? = some (.cells cs T (0, 0))) (hl : len ≤ 3) (hc : ∀ i, i < len → cs[i * 2]? = some (.int .i64 (L i).1) ∧ cs[i * 2 + 1]? = some (.int .i64 (L i).2)) (h : CostIs L len c r x) :
    Calls Tryd.prog 7 #[.slice (some ⟨b, 0, none⟩) len len] w fun e w' => e = .returned (.tuple #[.int .i64 c, .int .i64 r, .int .i64 x]) ∧ Below w.heap.size w w' := by
  have hA : PairsAt w.heap.size w (some ⟨b, 0, none⟩) len L := fun i hi => ⟨b, 0, rfl, (Array.getElem?_eq_some_iff.1 hb).1, by rw [Nat.zero_add, cell_of_row _ _ _ _ _ _ hb]; exact (hc i hi).1, by rw [Nat.zero_add, cell_of_row _ _ _ _ _ _ hb]; exact (hc i hi).2⟩
  refine (cost_any (some ⟨b, 0, none⟩) len len L (by omega) w hA).mono ?_
  rintro e w' ⟨⟨c', r', x', h', rfl⟩, hB⟩
  obtain ⟨rfl, rfl, rfl⟩ := h.unique h'
  exact ⟨rfl, hB⟩
end Go.Proofs.YtbffmobjiiicoaaDoor
