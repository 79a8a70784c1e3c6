/- The statement BandsNames, walked. -/
import Derived.Test.YtmbimnphdhmapaaDoorDBackW
import Derived.Test.YtmbimnphdhmapaaDoorDBad
import Derived.Test.YtmbimnphdhmapaaDoorBTabP
set_option linter.unusedVariables false
set_option linter.unusedSimpArgs false
namespace Go.Proofs.YtmbimnphdhmapaaDoor
open Go.RowKit Go.Shelf
abbrev badC : Array Value := #[.string ⟨#[48, 58, 49, 32, 51, 54, 48, 58, 50, 32, 51, 54, 48, 58, 49]⟩, .string ⟨#[49, 58, 48]⟩, .string ⟨#[48, 58, 56]⟩, .string ⟨#[48, 58, 48, 49]⟩, .string ⟨#[]⟩, .string ⟨#[48]⟩, .string ⟨#[48, 58]⟩, .string ⟨#[58]⟩, .string ⟨#[48, 58, 49, 32, 32, 53, 58, 49]⟩, .string ⟨#[48, 58, 49, 32, 49, 52, 52, 48, 58, 50]⟩, .string ⟨#[48, 48, 58, 49]⟩, .string ⟨#[48, 58, 49, 32]⟩, .string ⟨#[48, 58, 49, 58, 50]⟩]
theorem bad_cell {W : World} {B : Nat} (h : W.heap[B]? = some (.cells badC 9 (0, 0))) : ∀ k, k < 13 → W.cell? ⟨B, k, none⟩ = some (strL (bads.getD k [])) := by
  intro k hk
  match k, hk with
  | 0, _ => exact cell_of_row _ _ 0 _ _ _ h
  | 1, _ => exact cell_of_row _ _ 1 _ _ _ h
  | 2, _ => exact cell_of_row _ _ 2 _ _ _ h
  | 3, _ => exact cell_of_row _ _ 3 _ _ _ h
  | 4, _ => exact cell_of_row _ _ 4 _ _ _ h
  | 5, _ => exact cell_of_row _ _ 5 _ _ _ h
  | 6, _ => exact cell_of_row _ _ 6 _ _ _ h
  | 7, _ => exact cell_of_row _ _ 7 _ _ _ h
  | 8, _ => exact cell_of_row _ _ 8 _ _ _ h
  | 9, _ => exact cell_of_row _ _ 9 _ _ _ h
  | 10, _ => exact cell_of_row _ _ 10 _ _ _ h
  | 11, _ => exact cell_of_row _ _ 11 _ _ _ h
  | 12, _ => exact cell_of_row _ _ 12 _ _ _ h
theorem parse_bad {s : List UInt8} (h : badF s = true) (hl : s.length ≤ 1000) (w : World) (hT : TabsD w) : Calls Tryd.prog 9 #[strL s] w fun e w' => e = .returned (.tuple #[.slice none 0 0, .int .i64 90]) ∧ Below w.heap.size w w' := by
  refine (parse_any s (by omega) w hT).mono ?_
  rintro e w' ⟨(⟨v, xs, rfl, hO, hpl, hst⟩ | ⟨rfl, hnone⟩), hB⟩
  · exact absurd hst (bad_of h xs hpl)
  · exact ⟨rfl, hB⟩
theorem text_some (a : Option Addr) (w : World) (hT : TabsD w) (hA : SwsAt w.heap.size w a 3 somL) : Calls Tryd.prog 6 #[.slice a 3 3] w fun e w' => e = .returned (.tuple #[.string ⟨#[48, 58, 49, 32, 51, 54, 48, 58, 50, 32, 49, 51, 50, 48, 58, 49]⟩, .int .i64 0]) ∧ Below w.heap.size w w' := by
  have h := text_yes a 3 3 somL som_plan w hT hA maxLen3
  rw [show swsOf somL 3 = [⟨0, 1⟩, ⟨360, 2⟩, ⟨1320, 1⟩] from rfl, some_text] at h
  exact h
/-- The statement's rules; with another plan in the first one. -/
def namR (p : Int) : Nat → Ru := fun i => [(⟨2, 1, p⟩ : Ru), ⟨0, 4, 1⟩, ⟨2, 0, 0⟩].getD i ⟨0, 0, 0⟩
def namP (b : Nat) : Nat → Pl := fun i => if i = 0 then ⟨some ⟨b, 0, none⟩, 3, 3, somL⟩ else ⟨some ⟨b + 1, 0, none⟩, 1, 1, fun _ => ⟨0, 0⟩⟩
theorem nam_tab (b : Nat) : TabIs (namP b) 2 (namR 1) 3 := ⟨by decide, by decide, by decide, fun i hi => by
  match i, hi with
  | 0, _ => exact som_plan
  | 1, _ => exact (show PlanIs (fun _ => (⟨0, 0⟩ : Sw)) 1 by decide), by decide⟩
theorem nam_may (b : Nat) {s kd : Int} (h : (0 ≤ s ∧ s ≤ 99) ∧ 1 ≤ kd ∧ kd ≤ 4) : PlanMay (namP b) 2 (namR 1) 3 s kd := ⟨nam_tab b, h⟩
theorem nam_21 : PlanOf (namR 1) 3 2 1 1 := .inl ⟨0, by decide, by decide, rfl, fun j hj => by omega⟩
theorem nam_22 : PlanOf (namR 1) 3 2 2 0 := .inl ⟨2, by decide, by decide, rfl, by decide⟩
theorem nam_14 : PlanOf (namR 1) 3 1 4 1 := .inl ⟨1, by decide, by decide, rfl, by decide⟩
theorem nam_11 : PlanOf (namR 1) 3 1 1 0 := .inr ⟨rfl, by decide⟩
theorem nam_no0 (b : Nat) : ¬ PlanMay (namP b) 2 (namR 1) 3 1 0 := fun h => by have := h.2.2.1; omega
theorem nam_no1 (P : Nat → Pl) (R : Nat → Ru) (s kd : Int) : ¬ PlanMay P 0 R 0 s kd := fun h => by have := h.1.1; omega
theorem nam_bad (b : Nat) : ¬ TabIs (namP b) 2 (namR 2) 3 := fun h => by have := (h.2.2.2.2 0 (by omega)).2.2.2; revert this; decide
abbrev namC (p : Int) : Array Value := #[.int .i64 2, .int .i64 1, .int .i64 p, .int .i64 0, .int .i64 4, .int .i64 1, .int .i64 2, .int .i64 0, .int .i64 0]
theorem nam_rus {W : World} {b : Nat} {p : Int} (h : W.heap[b]? = some (.cells (namC p) 42 (0, 0))) : RusAt W.heap.size W (some ⟨b, 0, none⟩) 3 (namR p) := by
  intro i hi
  refine ⟨b, 0, rfl, (Array.getElem?_eq_some_iff.1 h).1, ?_⟩
  match i, hi with
  | 0, _ => exact ⟨cell_of_row _ _ 0 _ _ _ h, cell_of_row _ _ 1 _ _ _ h, cell_of_row _ _ 2 _ _ _ h⟩
  | 1, _ => exact ⟨cell_of_row _ _ 3 _ _ _ h, cell_of_row _ _ 4 _ _ _ h, cell_of_row _ _ 5 _ _ _ h⟩
  | 2, _ => exact ⟨cell_of_row _ _ 6 _ _ _ h, cell_of_row _ _ 7 _ _ _ h, cell_of_row _ _ 8 _ _ _ h⟩
abbrev plC (b : Nat) : Array Value := #[.slice (some ⟨b, 0, none⟩) 3 3, .slice (some ⟨b + 1, 0, none⟩) 1 1]
theorem nam_pls {W : World} {b : Nat} (h0 : W.heap[b]? = some (.cells somC 39 (0, 0))) (h1 : W.heap[b + 1]? = some (.cells #[.int .i64 0, .int .i64 0] 39 (0, 0))) (h2 : W.heap[b + 2]? = some (.cells (plC b) 22 (0, 0))) : PlsAt W.heap.size W (some ⟨b + 2, 0, none⟩) 2 (namP b) := by
  intro i hi
  refine ⟨b + 2, 0, rfl, (Array.getElem?_eq_some_iff.1 h2).1, ?_⟩
  match i, hi with
  | 0, _ => exact ⟨cell_of_row _ _ 0 _ _ _ h2, ⟨Nat.le_refl _, maxLen3⟩, som_at h0⟩
  | 1, _ => exact ⟨cell_of_row _ _ 1 _ _ _ h2, ⟨Nat.le_refl _, by show (1 : Nat) ≤ maxLen; unfold maxLen; omega⟩, fun j hj => by
      obtain rfl : j = 0 := by have : j < 1 := hj; omega
      exact ⟨b + 1, 0, rfl, (Array.getElem?_eq_some_iff.1 h1).1, cell_of_row _ _ 0 _ _ _ h1, cell_of_row _ _ 1 _ _ _ h1⟩⟩
/-- The chapter's plan with a switch more that says nothing new. -/
def moreL : Nat → Sw := fun i => [(⟨0, 1⟩ : Sw), ⟨360, 2⟩, ⟨1320, 1⟩, ⟨1400, 1⟩].getD i ⟨0, 0⟩
theorem heap_alloc_at {W : World} {o : Obj} {n : Nat} (h : W.heap.size = n) : (W.alloc o).heap[n]? = some o := by
  subst h
  exact World.alloc_heap_new W o
theorem more_at {W : World} {b : Nat} {z : Array Value} (h : W.heap[b]? = some (.cells (#[.int .i64 0, .int .i64 1, .int .i64 360, .int .i64 2, .int .i64 1320, .int .i64 1] ++ (#[.int .i64 1400, .int .i64 1] ++ z)) 39 (0, 0))) : SwsAt W.heap.size W (some ⟨b, 0, none⟩) 4 moreL := by
  intro i hi
  refine ⟨b, 0, rfl, (Array.getElem?_eq_some_iff.1 h).1, ?_⟩
  match i, hi with
  | 0, _ => exact ⟨by simp [World.cell?, h, Array.getElem?_append]; rfl, by simp [World.cell?, h, Array.getElem?_append]; rfl⟩
  | 1, _ => exact ⟨by simp [World.cell?, h, Array.getElem?_append]; rfl, by simp [World.cell?, h, Array.getElem?_append]; rfl⟩
  | 2, _ => exact ⟨by simp [World.cell?, h, Array.getElem?_append]; rfl, by simp [World.cell?, h, Array.getElem?_append]; rfl⟩
  | 3, _ => exact ⟨by simp [World.cell?, h, Array.getElem?_append]; rfl, by simp [World.cell?, h, Array.getElem?_append]; rfl⟩
theorem more_same : decide (SameP somL 3 moreL 4) = true := by
  refine decide_eq_true ⟨som_plan, by decide, fun n hn => ?_⟩
  have e : bandN moreL 4 (n : Int) = if 1400 ≤ (n : Int) then 1 else if 1320 ≤ (n : Int) then 1 else if 360 ≤ (n : Int) then 2 else if 0 ≤ (n : Int) then 1 else 0 := rfl
  rw [som_band, e]
  split <;> split <;> first | rfl | omega
set_option maxRecDepth 100000 in
set_option maxHeartbeats 8000000 in
theorem namesW (w : World) (hT : TabsD w) : Calls Tryd.prog 4 #[] w fun e w' => e = .returned (.bool true) ∧ Below w.heap.size w w' := by
  have HT := Lib.hid hT
  have HS := Lib.hid (some_any w)
  have hb0 := (Below.refl _ w).alloc (Nat.le_refl _) (.cells somC 39)
  have htx := text_some (some ⟨w.heap.size, 0, none⟩) (w.alloc (.cells somC 39)) (hT.next hb0 (Nat.le_refl _)) (som_new w)
  have HTX := Lib.hid htx
  have HB0 := Lib.hid hb0
  clear hT hb0 htx
  go_enter Tryd.func4, Tryd.ntmps4
  go_wp2_with fail
  refine HS.out.mono ?_
  rintro e w1 ⟨rfl, rfl⟩
  go_wp2_with fail
  refine HTX.out.mono ?_
  rintro e w2 ⟨rfl, hB2⟩
  have hY := heap_alloc_new w2 (.cells badC 9)
  have hB3 := (HB0.out.trans (hB2.mono HB0.out.size)).alloc (Nat.le_trans HB0.out.size hB2.size) (.cells badC 9)
  clear hB2 HS HTX HB0
  go_wp2_with fail
  obtain ⟨Y, hYY⟩ : ∃ Y, w2.alloc (.cells badC 9) = Y := ⟨_, rfl⟩
  rw [hYY] at hY hB3 ⊢
  clear hYY
  have HCELL := Lib.hid (fun (W : World) (hW : Below Y.heap.size Y W) (k : Nat) (hk : k < 13) => bad_cell ((hW.block w2.heap.size (Array.getElem?_eq_some_iff.1 hY).1).trans hY) k hk)
  have HB3 := Lib.hid hB3
  clear hY hB3
  go_loopw [3, 35] (fun v3 i wr => ∃ k : Nat, k ≤ 13 ∧ v3 = .bool true ∧ i = .int .i64 k ∧ Below Y.heap.size Y wr) (fun _ i _ => (13 - intOf i).toNat)
  case atStart => exact ⟨0, by omega, rfl, rfl, Below.refl _ _⟩
  case round =>
    obtain ⟨k, hk, rfl, rfl, hb⟩ := hrel
    have HB := Lib.hid hb
    clear hb
    by_cases hlt : k < 13
    · have hlti : (k : Int) < 13 := by omega
      have c0 := HCELL.out wr HB.out k hlt
      have HPB := Lib.hid (parse_bad (bads_bad k hlt) (bads_len k hlt) wr (HT.out.next (HB3.out.trans (HB.out.mono HB3.out.size)) (Nat.le_refl _)))
      obtain ⟨X, hX⟩ : ∃ X, bads.getD k [] = X := ⟨_, rfl⟩
      rw [hX] at c0 HPB
      clear hX
      go_wp2_with fail
      refine HPB.out.mono ?_
      rintro e w4 ⟨rfl, hB4⟩
      have HB4 := Lib.hid (HB.out.trans (hB4.mono HB.out.size))
      clear hB4
      go_wp2
      go_roundw
      case rel => exact ⟨k + 1, by omega, rfl, by go_num, HB4.out⟩
      case measure => first | (simp [intOf]; done) | (simp [intOf]; omega)
    · obtain rfl : k = 13 := by omega
      have HBW := Lib.hid (HB3.out.trans (HB.out.mono HB3.out.size))
      have HS := Lib.hid (some_any wr)
      clear hlt hk
      go_wp2_with fail
      refine HS.out.mono ?_
      rintro e w5 ⟨rfl, rfl⟩
      go_wp2_with fail
      have h0 := heap_old (heap_old (heap_old (heap_old (heap_alloc_new wr (.cells somC 39)) (.cells #[.int .i64 0, .int .i64 0] 39)) (.cells (plC wr.heap.size) 22)) (.cells (namC 1) 42)) (.cells #[.slice (some ⟨wr.heap.size + 1 + 1, 0, none⟩) 2 2, .slice (some ⟨wr.heap.size + 1 + 1 + 1, 0, none⟩) 3 3] 45)
      have h1 := heap_old (heap_old (heap_old (heap_alloc_new (wr.alloc (.cells somC 39)) (.cells #[.int .i64 0, .int .i64 0] 39)) (.cells (plC wr.heap.size) 22)) (.cells (namC 1) 42)) (.cells #[.slice (some ⟨wr.heap.size + 1 + 1, 0, none⟩) 2 2, .slice (some ⟨wr.heap.size + 1 + 1 + 1, 0, none⟩) 3 3] 45)
      have h2 := heap_old (heap_old (heap_alloc_new ((wr.alloc (.cells somC 39)).alloc (.cells #[.int .i64 0, .int .i64 0] 39)) (.cells (plC wr.heap.size) 22)) (.cells (namC 1) 42)) (.cells #[.slice (some ⟨wr.heap.size + 1 + 1, 0, none⟩) 2 2, .slice (some ⟨wr.heap.size + 1 + 1 + 1, 0, none⟩) 3 3] 45)
      have h3 := heap_old (heap_alloc_new (((wr.alloc (.cells somC 39)).alloc (.cells #[.int .i64 0, .int .i64 0] 39)).alloc (.cells (plC wr.heap.size) 22)) (.cells (namC 1) 42)) (.cells #[.slice (some ⟨wr.heap.size + 1 + 1, 0, none⟩) 2 2, .slice (some ⟨wr.heap.size + 1 + 1 + 1, 0, none⟩) 3 3] 45)
      have h4 := heap_alloc_new ((((wr.alloc (.cells somC 39)).alloc (.cells #[.int .i64 0, .int .i64 0] 39)).alloc (.cells (plC wr.heap.size) 22)).alloc (.cells (namC 1) 42)) (.cells #[.slice (some ⟨wr.heap.size + 1 + 1, 0, none⟩) 2 2, .slice (some ⟨wr.heap.size + 1 + 1 + 1, 0, none⟩) 3 3] 45)
      have h5 := (((((HBW.out.alloc HBW.out.size (.cells somC 39)).alloc (by have := HBW.out.size; simp; omega) (.cells #[.int .i64 0, .int .i64 0] 39)).alloc (by have := HBW.out.size; simp; omega) (.cells (plC wr.heap.size) 22)).alloc (by have := HBW.out.size; simp; omega) (.cells (namC 1) 42))).alloc (by have := HBW.out.size; simp; omega) (.cells #[.slice (some ⟨wr.heap.size + 1 + 1, 0, none⟩) 2 2, .slice (some ⟨wr.heap.size + 1 + 1 + 1, 0, none⟩) 3 3] 45)
      simp only [World.size_alloc] at h1 h2 h3 h4
      obtain ⟨Z, hZ⟩ : ∃ Z, ((((wr.alloc (.cells somC 39)).alloc (.cells #[.int .i64 0, .int .i64 0] 39)).alloc (.cells (plC wr.heap.size) 22)).alloc (.cells (namC 1) 42)).alloc (.cells #[.slice (some ⟨wr.heap.size + 1 + 1, 0, none⟩) 2 2, .slice (some ⟨wr.heap.size + 1 + 1 + 1, 0, none⟩) 3 3] 45) = Z := ⟨_, rfl⟩
      rw [hZ] at h0 h1 h2 h3 h4 h5 ⊢
      clear hZ
      have l0 := (Array.getElem?_eq_some_iff.1 h0).1
      have l1 := (Array.getElem?_eq_some_iff.1 h1).1
      have l2 := (Array.getElem?_eq_some_iff.1 h2).1
      have l3 := (Array.getElem?_eq_some_iff.1 h3).1
      have l4 := (Array.getElem?_eq_some_iff.1 h4).1
      have HPL := Lib.hid (fun (W : World) (hW : Below Z.heap.size Z W) => nam_pls ((hW.block _ l0).trans h0) ((hW.block _ l1).trans h1) ((hW.block _ l2).trans h2))
      have HRU := Lib.hid (fun (W : World) (hW : Below Z.heap.size Z W) => nam_rus ((hW.block _ l3).trans h3))
      have HR3 := Lib.hid (fun (W : World) (hW : Below Z.heap.size Z W) => (hW.block _ l3).trans h3)
      have HR0 := Lib.hid (fun (W : World) (hW : Below Z.heap.size Z W) => (hW.block _ l0).trans h0)
      have HR1 := Lib.hid (fun (W : World) (hW : Below Z.heap.size Z W) => (hW.block _ l1).trans h1)
      have HR2 := Lib.hid (fun (W : World) (hW : Below Z.heap.size Z W) => (hW.block _ l2).trans h2)
      have HLW := Lib.hid HBW.out.size
      have HR4 := Lib.hid (fun (W : World) (hW : Below Z.heap.size Z W) => (hW.block _ l4).trans h4)
      have HT4 := Lib.hid (fun (W : World) (hW : Below Z.heap.size Z W) => show W.cell? ⟨wr.heap.size + 1 + 1 + 1 + 1, 0, none⟩ = some (.slice (some ⟨wr.heap.size + 1 + 1, 0, none⟩) 2 2) ∧ W.cell? ⟨wr.heap.size + 1 + 1 + 1 + 1, 1, none⟩ = some (.slice (some ⟨wr.heap.size + 1 + 1 + 1, 0, none⟩) 3 3) from ⟨cell_of_row _ _ 0 _ _ _ ((hW.block _ l4).trans h4), cell_of_row _ _ 1 _ _ _ ((hW.block _ l4).trans h4)⟩)
      have HZ := Lib.hid h5
      have HLZ := Lib.hid (show wr.heap.size + 4 < Z.heap.size from l4)
      have C0 := Lib.hid (Below.refl Z.heap.size Z)
      have M2 : 2 ≤ maxLen := by unfold maxLen; omega
      have M0 : 0 ≤ maxLen := Nat.zero_le _
      clear h0 h1 h2 h3 h4 h5 l0 l1 l2 l3 l4 HCELL HBW HB HS
      refine (planT_yes (some ⟨wr.heap.size + 1 + 1, 0, none⟩) 2 2 (some ⟨wr.heap.size + 1 + 1 + 1, 0, none⟩) 3 3 (namP wr.heap.size) (namR 1) 2 1 (nam_may _ (by decide)) Z (HPL.out Z C0.out) (HRU.out Z C0.out) M2 maxLen3).mono ?_
      rintro e v0 ⟨⟨p0, hp, rfl⟩, hB⟩
      obtain rfl : p0 = 1 := PlanOf.unique hp nam_21
      have C1 := Lib.hid (C0.out.trans (hB.mono C0.out.size))
      obtain ⟨y00, y01⟩ := HT4.out v0 C1.out
      clear hB hp
      go_wp2_with fail
      refine (planT_yes (some ⟨wr.heap.size + 1 + 1, 0, none⟩) 2 2 (some ⟨wr.heap.size + 1 + 1 + 1, 0, none⟩) 3 3 (namP wr.heap.size) (namR 1) 2 2 (nam_may _ (by decide)) v0 (HPL.out v0 C1.out) (HRU.out v0 C1.out) M2 maxLen3).mono ?_
      rintro e v1 ⟨⟨p1, hp, rfl⟩, hB⟩
      obtain rfl : p1 = 0 := PlanOf.unique hp nam_22
      have C2 := Lib.hid (C1.out.trans (hB.mono C1.out.size))
      obtain ⟨y10, y11⟩ := HT4.out v1 C2.out
      clear hB hp y00 y01
      go_wp2_with fail
      refine (planT_yes (some ⟨wr.heap.size + 1 + 1, 0, none⟩) 2 2 (some ⟨wr.heap.size + 1 + 1 + 1, 0, none⟩) 3 3 (namP wr.heap.size) (namR 1) 1 4 (nam_may _ (by decide)) v1 (HPL.out v1 C2.out) (HRU.out v1 C2.out) M2 maxLen3).mono ?_
      rintro e v2 ⟨⟨p2, hp, rfl⟩, hB⟩
      obtain rfl : p2 = 1 := PlanOf.unique hp nam_14
      have C3 := Lib.hid (C2.out.trans (hB.mono C2.out.size))
      obtain ⟨y20, y21⟩ := HT4.out v2 C3.out
      clear hB hp y10 y11
      go_wp2_with fail
      refine (planT_yes (some ⟨wr.heap.size + 1 + 1, 0, none⟩) 2 2 (some ⟨wr.heap.size + 1 + 1 + 1, 0, none⟩) 3 3 (namP wr.heap.size) (namR 1) 1 1 (nam_may _ (by decide)) v2 (HPL.out v2 C3.out) (HRU.out v2 C3.out) M2 maxLen3).mono ?_
      rintro e v3 ⟨⟨p3, hp, rfl⟩, hB⟩
      obtain rfl : p3 = 0 := PlanOf.unique hp nam_11
      have C4 := Lib.hid (C3.out.trans (hB.mono C3.out.size))
      obtain ⟨y30, y31⟩ := HT4.out v3 C4.out
      clear hB hp y20 y21
      go_wp2_with fail
      refine (planT_no (some ⟨wr.heap.size + 1 + 1, 0, none⟩) 2 2 (some ⟨wr.heap.size + 1 + 1 + 1, 0, none⟩) 3 3 (namP wr.heap.size) (namR 1) 1 0 (nam_no0 _) v3 (HPL.out v3 C4.out) (HRU.out v3 C4.out) M2 maxLen3).mono ?_
      rintro e v4 ⟨rfl, hB⟩
      have C5 := Lib.hid (C4.out.trans (hB.mono C4.out.size))
      clear hB y30 y31
      go_wp2_with fail
      refine (planT_no none 0 0 none 0 0 (namP 0) (namR 1) 1 1 (nam_no1 _ _ _ _) v4 (fun i hi => absurd hi (Nat.not_lt_zero _)) (fun i hi => absurd hi (Nat.not_lt_zero _)) M0 M0).mono ?_
      rintro e v5 ⟨rfl, hB⟩
      have C6 := Lib.hid (C5.out.trans (hB.mono C5.out.size))
      clear hB
      go_wp2_with fail
      refine (checkT_any none 0 0 none 0 0 (namP 0) (namR 1) v5 (fun i hi => absurd hi (Nat.not_lt_zero _)) (fun i hi => absurd hi (Nat.not_lt_zero _)) M0 M0).mono ?_
      rw [tErr_no (P := namP 0) (R := namR 1) (fun h => by have := h.1; omega)]
      rintro e v6 ⟨rfl, hB⟩
      have C7 := Lib.hid (C6.out.trans (hB.mono C6.out.size))
      obtain ⟨y60, y61⟩ := HT4.out v6 C7.out
      have q2 : v6.cell? ⟨wr.heap.size + 1 + 1 + 1, 2, none⟩ = some (.int .i64 1) := cell_of_row _ _ 2 _ _ _ (HR3.out v6 C7.out)
      have qf : v6.frozen? ⟨wr.heap.size + 1 + 1 + 1, 2, none⟩ = false := frozen_of_row _ _ 2 _ _ (HR3.out v6 C7.out)
      clear hB
      go_wp2_with fail
      have d0 := (heap_setCell_other v6 ⟨wr.heap.size + 1 + 1 + 1, 2, none⟩ (wr.heap.size) (.int .i64 2) (by show wr.heap.size ≠ wr.heap.size + 1 + 1 + 1; omega)).trans (HR0.out v6 C7.out)
      have d1 := (heap_setCell_other v6 ⟨wr.heap.size + 1 + 1 + 1, 2, none⟩ (wr.heap.size + 1) (.int .i64 2) (by show wr.heap.size + 1 ≠ wr.heap.size + 1 + 1 + 1; omega)).trans (HR1.out v6 C7.out)
      have d2 := (heap_setCell_other v6 ⟨wr.heap.size + 1 + 1 + 1, 2, none⟩ (wr.heap.size + 1 + 1) (.int .i64 2) (by show wr.heap.size + 1 + 1 ≠ wr.heap.size + 1 + 1 + 1; omega)).trans (HR2.out v6 C7.out)
      have d4 := (heap_setCell_other v6 ⟨wr.heap.size + 1 + 1 + 1, 2, none⟩ (wr.heap.size + 1 + 1 + 1 + 1) (.int .i64 2) (by show wr.heap.size + 1 + 1 + 1 + 1 ≠ wr.heap.size + 1 + 1 + 1; omega)).trans (HR4.out v6 C7.out)
      have d3 : (v6.setCell ⟨wr.heap.size + 1 + 1 + 1, 2, none⟩ (.int .i64 2)).heap[wr.heap.size + 1 + 1 + 1]? = some (.cells (namC 2) 42 (0, 0)) := heap_setCell_same v6 (wr.heap.size + 1 + 1 + 1) 2 _ _ _ (HR3.out v6 C7.out)
      have d5 := (HZ.out.trans (C7.out.mono HZ.out.size)).setCell (p := ⟨wr.heap.size + 1 + 1 + 1, 2, none⟩) (by show w.heap.size ≤ wr.heap.size + 1 + 1 + 1; have := HLW.out; omega) (.int .i64 2)
      obtain ⟨D, hD⟩ : ∃ D, v6.setCell ⟨wr.heap.size + 1 + 1 + 1, 2, none⟩ (.int .i64 2) = D := ⟨_, rfl⟩
      rw [hD] at d0 d1 d2 d3 d4 d5 ⊢
      clear hD q2 qf y60 y61
      have l0 := (Array.getElem?_eq_some_iff.1 d0).1
      have l1 := (Array.getElem?_eq_some_iff.1 d1).1
      have l2 := (Array.getElem?_eq_some_iff.1 d2).1
      have l3 := (Array.getElem?_eq_some_iff.1 d3).1
      have l4 := (Array.getElem?_eq_some_iff.1 d4).1
      have HPD := Lib.hid (fun (W : World) (hW : Below D.heap.size D W) => nam_pls ((hW.block _ l0).trans d0) ((hW.block _ l1).trans d1) ((hW.block _ l2).trans d2))
      have HRD := Lib.hid (fun (W : World) (hW : Below D.heap.size D W) => nam_rus ((hW.block _ l3).trans d3))
      have HTD := Lib.hid (fun (W : World) (hW : Below D.heap.size D W) => show W.cell? ⟨wr.heap.size + 1 + 1 + 1 + 1, 0, none⟩ = some (.slice (some ⟨wr.heap.size + 1 + 1, 0, none⟩) 2 2) ∧ W.cell? ⟨wr.heap.size + 1 + 1 + 1 + 1, 1, none⟩ = some (.slice (some ⟨wr.heap.size + 1 + 1 + 1, 0, none⟩) 3 3) from ⟨cell_of_row _ _ 0 _ _ _ ((hW.block _ l4).trans d4), cell_of_row _ _ 1 _ _ _ ((hW.block _ l4).trans d4)⟩)
      have HBD := Lib.hid d5
      clear d0 d1 d2 d3 d4 d5 l0 l1 l2 l3 l4 HPL HRU HT4
      refine (alive_any D).mono ?_
      rintro e v7 ⟨rfl, hB⟩
      have E7 := Lib.hid hB
      obtain ⟨y70, y71⟩ := HTD.out v7 E7.out
      clear hB
      go_wp2_with fail
      refine (checkT_any (some ⟨wr.heap.size + 1 + 1, 0, none⟩) 2 2 (some ⟨wr.heap.size + 1 + 1 + 1, 0, none⟩) 3 3 (namP wr.heap.size) (namR 2) v7 (HPD.out v7 E7.out) (HRD.out v7 E7.out) M2 maxLen3).mono ?_
      rw [tErr_no (nam_bad _)]
      rintro e v8 ⟨rfl, hB⟩
      have E8 := Lib.hid (E7.out.trans (hB.mono E7.out.size))
      clear hB y70 y71
      go_wp2_with fail
      refine (sameP_any none 0 0 somL none 0 0 somL v8 (fun i hi => absurd hi (Nat.not_lt_zero _)) (fun i hi => absurd hi (Nat.not_lt_zero _)) M0 M0).mono ?_
      rw [show decide (SameP somL 0 somL 0) = false from decide_eq_false (fun h => by have := h.1.1; omega)]
      rintro e v9 ⟨rfl, hB⟩
      have E9 := Lib.hid (HBD.out.trans ((E8.out.trans (hB.mono E8.out.size)).mono HBD.out.size))
      clear hB
      go_wp2_with fail
      refine (some_any v9).mono ?_
      rintro e w' ⟨rfl, rfl⟩
      go_wp2_with fail
      refine (some_any (v9.alloc (.cells somC 39))).mono ?_
      rintro e w' ⟨rfl, rfl⟩
      go_wp2_with fail
      refine Calls.mono (sameP_any (some ⟨v9.heap.size, 0, none⟩) 3 3 somL (some ⟨v9.heap.size + 1 + 1 + 1, 0, none⟩) 4 _ moreL _ (som_at (heap_old (heap_old (heap_old (heap_alloc_new v9 _) _) _) _)) (more_at (heap_alloc_at (by simp [World.size_alloc]))) maxLen3 (by unfold maxLen; omega)) ?_
      rw [more_same]
      rintro e v10 ⟨rfl, hB⟩
      have E10 := Lib.hid ((((((E9.out.alloc E9.out.size _).alloc (by have := E9.out.size; simp; omega) _).alloc (by have := E9.out.size; simp; omega) _).alloc (by have := E9.out.size; simp; omega) _).drew).trans (hB.mono (by have := E9.out.size; simp; omega)))
      clear hB
      go_wp2
      go_ret
      exact ⟨rfl, E10.out⟩
end Go.Proofs.YtmbimnphdhmapaaDoor
