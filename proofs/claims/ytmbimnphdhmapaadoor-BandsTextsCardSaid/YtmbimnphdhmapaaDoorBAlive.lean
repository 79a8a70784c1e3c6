/- The chapter's plan; the statements' some and alive. -/
import Derived.Test.YtmbimnphdhmapaaDoorBBand
import Derived.Test.YtmbimnphdhmapaaDoorBShare
import Derived.Laws.StructEq
import Derived.ChangeKeysEq
set_option linter.unusedVariables false
set_option linter.unusedSimpArgs false
namespace Go.Proofs.YtmbimnphdhmapaaDoor
open Go.RowKit Go.Shelf
theorem eqI_cons {P : Program} {w : World} {d c i : Nat} {e : TypeId} {xs ys : Array Value} {is : List Nat} {a : Int} (hp : (part e xs (i * c)).run P w = .ok (.int .i64 a) w) (hq : (part e ys (i * c)).run P w = .ok (.int .i64 a) w) (ht : P.underlying e = some (.int .i64)) :
    (Op.eqItems (d + 1) e c xs ys (i :: is)).run P w = (Op.eqItems (d + 1) e c xs ys is).run P w := by
  simp only [Op.eqItems, Sem.run_bind, hp, hq, Result.andThen_ok, run_equalIn_int w d e .i64 .i64 a a ht]
  simp
theorem infoI : ∃ i, Tryd.prog.info? 3 = some i := by
  have h : (Tryd.prog.info? 3).isSome = true := by kernel_rfl
  exact Option.isSome_iff_exists.1 h
/-- An array of eight numbers is equal to itself. -/
theorem eql_a8 (x0 x1 x2 x3 x4 x5 x6 x7 : Int) (w : World) : (Op.equalIn 10000 66 (.agg #[.int .i64 x0, .int .i64 x1, .int .i64 x2, .int .i64 x3, .int .i64 x4, .int .i64 x5, .int .i64 x6, .int .i64 x7]) (.agg #[.int .i64 x0, .int .i64 x1, .int .i64 x2, .int .i64 x3, .int .i64 x4, .int .i64 x5, .int .i64 x6, .int .i64 x7])).run Tryd.prog w = .ok true w := by
  have hi := Tryd.underlying3
  have c1 : Tryd.prog.cellsOf 3 = 1 := by kernel_rfl
  obtain ⟨inf, hinf⟩ := infoI
  rw [run_equalIn_array w 9999 _ _ Tryd.underlying66 hinf]
  rw [show List.range 8 = [0, 1, 2, 3, 4, 5, 6, 7] from rfl, c1]
  rw [eqI_cons (a := x0) (by simp [go_sem]) (by simp [go_sem]) hi, eqI_cons (a := x1) (by simp [go_sem]) (by simp [go_sem]) hi, eqI_cons (a := x2) (by simp [go_sem]) (by simp [go_sem]) hi, eqI_cons (a := x3) (by simp [go_sem]) (by simp [go_sem]) hi, eqI_cons (a := x4) (by simp [go_sem]) (by simp [go_sem]) hi, eqI_cons (a := x5) (by simp [go_sem]) (by simp [go_sem]) hi, eqI_cons (a := x6) (by simp [go_sem]) (by simp [go_sem]) hi, eqI_cons (a := x7) (by simp [go_sem]) (by simp [go_sem]) hi]
  simp [Op.eqItems]
/-- The chapter's plan. -/
def somL : Nat → Sw := fun i => [(⟨0, 1⟩ : Sw), ⟨360, 2⟩, ⟨1320, 1⟩].getD i ⟨0, 0⟩
theorem som_plan : PlanIs somL 3 := by decide
theorem som_band {x : Int} : bandN somL 3 x = if 1320 ≤ x then 1 else if 360 ≤ x then 2 else if 0 ≤ x then 1 else 0 := rfl
theorem som_next : BNext somL 3 400 1320 true := .inl ⟨rfl, by omega, by omega, by decide, fun j h0 h1 => by rw [som_band, som_band, if_neg (by omega), if_pos (by omega), if_neg (by omega), if_pos (by omega)]⟩
theorem som_last : BNext somL 3 1320 0 false := .inr ⟨rfl, rfl, fun j h0 h1 => by rw [som_band, som_band, if_pos (by omega), if_pos (by omega)]⟩
theorem som_share : shC (mins (strs somL 3)) = #[.int .i64 0, .int .i64 480, .int .i64 960, .int .i64 0, .int .i64 0, .int .i64 0, .int .i64 0, .int .i64 0] := by
  have h : ∀ k : Fin 8, mins (strs somL 3) (k.1 : Int) = [(0 : Int), 480, 960, 0, 0, 0, 0, 0].getD k.1 0 := by decide +kernel
  have h0 : mins (strs somL 3) 0 = 0 := h 0
  have h1 : mins (strs somL 3) 1 = 480 := h 1
  have h2 : mins (strs somL 3) 2 = 960 := h 2
  have h3 : mins (strs somL 3) 3 = 0 := h 3
  have h4 : mins (strs somL 3) 4 = 0 := h 4
  have h5 : mins (strs somL 3) 5 = 0 := h 5
  have h6 : mins (strs somL 3) 6 = 0 := h 6
  have h7 : mins (strs somL 3) 7 = 0 := h 7
  unfold shC
  rw [h0, h1, h2, h3, h4, h5, h6, h7]
abbrev somC : Array Value := #[.int .i64 0, .int .i64 1, .int .i64 360, .int .i64 2, .int .i64 1320, .int .i64 1]
theorem some_any (w : World) : Calls Tryd.prog 12 #[] w fun e w' => e = .returned (.slice (some ⟨w.heap.size, 0, none⟩) 3 3) ∧ w' = w.alloc (.cells somC 39) := by
  go_enter Tryd.func12, Tryd.ntmps12
  go_wp2
  go_ret
  exact ⟨rfl, rfl⟩
theorem som_at {W : World} {b : Nat} (h : W.heap[b]? = some (.cells somC 39 (0, 0))) : SwsAt W.heap.size W (some ⟨b, 0, none⟩) 3 somL := by
  intro i hi
  refine ⟨b, 0, rfl, (Array.getElem?_eq_some_iff.1 h).1, ?_⟩
  match i, hi with
  | 0, _ => exact ⟨cell_of_row _ _ 0 _ _ _ h, cell_of_row _ _ 1 _ _ _ h⟩
  | 1, _ => exact ⟨cell_of_row _ _ 2 _ _ _ h, cell_of_row _ _ 3 _ _ _ h⟩
  | 2, _ => exact ⟨cell_of_row _ _ 4 _ _ _ h, cell_of_row _ _ 5 _ _ _ h⟩
theorem som_new (w : World) : SwsAt (w.alloc (.cells somC 39)).heap.size (w.alloc (.cells somC 39)) (some ⟨w.heap.size, 0, none⟩) 3 somL := som_at (heap_alloc_new w _)
theorem maxLen3 : 3 ≤ maxLen := by unfold maxLen; omega
set_option maxRecDepth 100000 in
set_option maxHeartbeats 2000000 in
theorem alive_any (w : World) : Calls Tryd.prog 15 #[] w fun e w' => e = .returned (.bool true) ∧ Below w.heap.size w w' := by
  have HA := Lib.hid (fun W : World => band_yes _ 3 3 somL 359 _ (som_new W) maxLen3 som_plan (by decide))
  have HB := Lib.hid (fun W : World => band_yes _ 3 3 somL 360 _ (som_new W) maxLen3 som_plan (by decide))
  have HC := Lib.hid (fun W : World => band_no _ 3 3 somL 1440 _ (som_new W) maxLen3 (by decide))
  have HN := Lib.hid (fun W : World => next_yes _ 3 3 somL 400 _ (som_new W) maxLen3 som_plan (by decide))
  have HM := Lib.hid (fun W : World => next_yes _ 3 3 somL 1320 _ (som_new W) maxLen3 som_plan (by decide))
  have HS := Lib.hid (fun W : World => share_yes _ 3 3 somL _ (som_new W) maxLen3 som_plan)
  rw [show bandN somL 3 359 = 1 from rfl] at HA
  rw [show bandN somL 3 360 = 2 from rfl] at HB
  rw [som_share] at HS
  have HEQ := Lib.hid (fun W : World => eql_a8 0 480 960 0 0 0 0 0 W)
  have HB0 := Lib.hid (fun W X Y (h : Below w.heap.size w W) (k : Below (W.alloc (.cells somC 39)).heap.size (W.alloc (.cells somC 39)) X) (e : X = Y) => (show Below w.heap.size w Y by
    rw [← e]
    have h2 := h.alloc h.size (.cells somC 39)
    exact h2.trans (k.mono h2.size)))
  go_enter Tryd.func15, Tryd.ntmps15
  go_wp2_with (go_at_call 12; refine (some_any _).mono ?_; rintro e w' ⟨rfl, rfl⟩)
  refine (HA.out _).mono ?_
  rintro e w1 ⟨rfl, h1⟩
  have H1 := Lib.hid (HB0.out _ _ _ (Below.refl _ _) h1 rfl)
  clear h1 HA
  go_wp2_with (go_at_call 12; refine (some_any _).mono ?_; rintro e w' ⟨rfl, rfl⟩)
  refine (HB.out _).mono ?_
  rintro e w2 ⟨rfl, h2⟩
  have H2 := Lib.hid (HB0.out _ _ _ H1.out h2 rfl)
  clear h2 HB H1
  go_wp2_with (go_at_call 12; refine (some_any _).mono ?_; rintro e w' ⟨rfl, rfl⟩)
  refine (HC.out _).mono ?_
  rintro e w3 ⟨rfl, h3⟩
  have H3 := Lib.hid (HB0.out _ _ _ H2.out h3 rfl)
  clear h3 HC H2
  go_wp2_with (go_at_call 12; refine (some_any _).mono ?_; rintro e w' ⟨rfl, rfl⟩)
  refine (HN.out _).mono ?_
  rintro e w4 ⟨⟨n, is, hn, rfl⟩, h4⟩
  obtain ⟨rfl, rfl⟩ := hn.unique som_next
  have H4 := Lib.hid (HB0.out _ _ _ H3.out h4 rfl)
  clear h4 HN H3 hn
  go_wp2_with (go_at_call 12; refine (some_any _).mono ?_; rintro e w' ⟨rfl, rfl⟩)
  refine (HM.out _).mono ?_
  rintro e w5 ⟨⟨n, is, hn, rfl⟩, h5⟩
  obtain ⟨rfl, rfl⟩ := hn.unique som_last
  have H5 := Lib.hid (HB0.out _ _ _ H4.out h5 rfl)
  clear h5 HM H4 hn
  go_wp2_with (go_at_call 12; refine (some_any _).mono ?_; rintro e w' ⟨rfl, rfl⟩)
  refine (HS.out _).mono ?_
  rintro e w6 ⟨rfl, h6⟩
  have H6 := Lib.hid (HB0.out _ _ _ H5.out h6 rfl)
  have heq := HEQ.out w6
  clear h6 HS H5
  go_wp2
  go_ret
  exact ⟨rfl, H6.out⟩
end Go.Proofs.YtmbimnphdhmapaaDoor
