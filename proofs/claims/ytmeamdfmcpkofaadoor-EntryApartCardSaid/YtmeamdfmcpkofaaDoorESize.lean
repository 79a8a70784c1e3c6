/- sizeOf. -/
import Derived.Test.YtmeamdfmcpkofaaDoorEIter
set_option linter.unusedVariables false
set_option linter.unusedSimpArgs false
namespace Go.Proofs.YtmeamdfmcpkofaaDoor
open Go.RowKit Go.Shelf
attribute [local go_sem] Oper.semAt_some
theorem sizesOf_app : ∀ a b : List Nat, sizesOf (a ++ b) = sizesOf a + sizesOf b
  | [], b => by simp [sizesOf]
  | x :: a, b => by simp only [List.cons_append, sizesOf, sizesOf_app a b]; omega
theorem sizesOf_pre {a b : List Nat} (h : a <+: b) : sizesOf a ≤ sizesOf b := by
  obtain ⟨t, rfl⟩ := h
  rw [sizesOf_app]; omega
def lenK (n : Int) : Nat := if 1 ≤ n ∧ n ≤ 5 then 1 + sizesOf (layN n.toNat) else 0
theorem lenK_lenN {k : Nat} (h : 1 ≤ k ∧ k ≤ 5) : lenK (k : Int) = lenN k := by
  unfold lenK lenN
  rw [if_pos (by omega), Int.toNat_natCast, lay_nums k h, sizesOf_app]
  split <;> simp [sizesOf, sizeN] <;> omega
theorem sizes_small {k : Nat} : sizesOf (layN k) ≤ 58 := by
  unfold layN; split <;> simp [sizesOf, sizeN]
def SzI (w : World) (pre : List Nat) (W : World) : Prop := W.heap[w.heap.size]? = some (.cells #[.int .i64 ((1 + sizesOf pre : Nat) : Int)] 3 (0, 0)) ∧ Below w.heap.size w W
theorem SzI.steady {w : World} {pre : List Nat} {B : Nat} (hB : w.heap.size < B) {G : Nat → Prop} (hG : ∀ r, G r → w.heap.size < r) : SteadyG G (SzI w pre) := fun X Y row hs hg hr =>
  ⟨(hg.block _ (Array.getElem?_eq_some_iff.1 hs.1).1 (fun e => by have := hG _ (hr _ e.symm); omega)).trans hs.1,
    hs.2.trans ⟨hg.os, hg.tape, hg.output, hg.size, fun k hk => hg.block k (by have := hs.2.size; omega) (fun e => by have := hG _ (hr k e.symm); omega)⟩⟩
set_option maxRecDepth 100000 in
set_option maxHeartbeats 4000000 in
theorem sizeOf_any (n : Int) (hn : R64 n) (w : World) (hT : TabE w) : Calls Tryd.prog 26 #[.int .i64 n] w fun e w' => e = .returned (.int .i64 (lenK n : Nat)) ∧ Below w.heap.size w w' := by
  have HNM := Lib.hid (name_any n hn w hT)
  by_cases hk : 1 ≤ n ∧ n ≤ 5
  · obtain ⟨k, rfl⟩ : ∃ k : Nat, n = (k : Int) := ⟨n.toNat, by omega⟩
    have hk1 : 1 ≤ k ∧ k < 6 := by omega
    rw [name_nat hk1.2] at HNM
    have hne := words_ne hk1
    obtain ⟨ws, hws⟩ : ∃ ws, wordS k = ws := ⟨_, rfl⟩
    rw [hws] at HNM hne
    have n2 : ws.toList ≠ [] := fun e => hne (by
      rw [ByteArray.toList_eq] at e
      cases ws; simp_all)
    have n3 : ws.toList.isEmpty = false := by cases h : ws.toList with
      | nil => exact absurd h n2
      | cons => rfl
    have HLK := Lib.hid (show lenK (k : Int) = 1 + sizesOf (layN k) by unfold lenK; rw [if_pos hk, Int.toNat_natCast])
    have s1 : (w.alloc (.cells #[.int .i64 1] 3)).heap.size = w.heap.size + 1 := World.size_alloc _ _
    obtain ⟨X, hX⟩ : ∃ X, X = (w.alloc (.cells #[.int .i64 1] 3)).alloc (.cells #[.int .i64 (k : Int)] 3) := ⟨_, rfl⟩
    have sX : X.heap.size = w.heap.size + 2 := by rw [hX, World.size_alloc, s1]
    have hBX : Below w.heap.size w X := by rw [hX]; exact ((Below.refl _ w).alloc (Nat.le_refl _) _).alloc (by rw [s1]; omega) _
    have y0 : X.heap[w.heap.size]? = some (.cells #[.int .i64 1] 3 (0, 0)) := by rw [hX]; exact (Below.heap_alloc _ _ _ (by rw [s1]; omega)).trans (World.alloc_heap_new w _)
    have y1 : X.heap[w.heap.size + 1]? = some (.cells #[.int .i64 (k : Int)] 3 (0, 0)) := by
      rw [hX]; have := World.alloc_heap_new (w.alloc (.cells #[.int .i64 1] 3)) (.cells #[.int .i64 (k : Int)] 3); rwa [s1] at this
    have hap := fieldsOf_in (6 - 1) (k : Int) (w.alloc (.cells #[.int .i64 1] 3))
    rw [s1] at hap
    have HAP := Lib.hid hap
    have HXX := Lib.hid hX
    have HX := Lib.hid (And.intro sX (And.intro hBX (And.intro y0 y1)))
    have HT := Lib.hid hT
    have HK := Lib.hid hk1
    clear hn hT hk hk1 hne hws s1 hX sX hBX y0 y1 hap
    refine (callsIn_wide (n := 6)).1 ?_
    refine callsIn_of_wp_marks Tryd.func26 rfl trivial ?_ rfl
    simp only [Tryd.ntmps26, List.size_toArray, List.length_cons, List.length_nil, Nat.reduceAdd, Nat.reduceSub, Array.replicate_succ, Array.replicate_zero, List.push_toArray, List.append_toArray, List.nil_append, List.cons_append]
    gi_wp2_with fail
    refine ⟨trivial, ?_⟩
    refine (callsIn_wide.2 HNM.out).mono ?_
    rintro e W ⟨rfl, rfl⟩
    clear HNM
    gi_wp2_with fail
    refine ⟨trivial, ?_⟩
    refine HAP.out.mono ?_
    rintro e w' ⟨rfl, hw⟩
    obtain rfl : X = w' := HXX.out.trans hw.symm
    clear hw HXX HAP
    gi_wp2_with fail
    obtain ⟨sX, hBX, y0, y1⟩ := HX.out
    refine wpIn_rangeFunc_box (gf := 49) (lb := #[.pointer (some ⟨w.heap.size + 1, 0, none⟩)]) rfl (enters_of Tryd.func49 (by kernel_rfl) rfl)
      (layN k) (encF k) (w.heap.size + 1) (by omega) (fun j => j = w.heap.size)
      (fields_seq (6 - 1) (by omega) (w.heap.size + 1) k HK.out.2 _ w HT.out (fun j hj => ⟨by omega, by omega⟩) X hBX y1) (fun _ => rfl) (fun j hj => by omega)
      (SzI w) (fun _ _ => False)
      (fun pre => SzI.steady (B := w.heap.size + 1) (by omega) (fun r hr => by omega))
      (fun pre X' Y row hs' hg hr => hs'.elim)
      ⟨by simpa [sizesOf] using y0, hBX⟩
      (fun pre x a₁ W' => ∃ B, a₁ = { tmps := #[.int .i64 (k : Int), undef, .int .i64 0, .pointer (some ⟨w.heap.size, 0, none⟩), .pointer (some ⟨B, 0, none⟩), .int .i64 (k : Int), .string ws, .bool false, .int .i64 (k : Int), .func (.func 49) #[] #[.pointer (some ⟨w.heap.size + 1, 0, none⟩)], .agg (fdV k x), undef, undef, undef, undef, undef], defers := [] } ∧ X.heap.size + 2 ≤ B ∧ W'.heap[B]? = some (.cells (fdV k x) 66 (0, 0)))
      (fun pre x a₁ X' Y row hs hg hr => by
        obtain ⟨B, e1, e2, e3⟩ := hs
        exact ⟨B, e1, e2, (hg.block _ (Array.getElem?_eq_some_iff.1 e3).1 (fun e => by have := hr _ e.symm; omega)).trans e3⟩)
      ?assign ?body ?done ?stop
    case assign =>
      intro l pre x W K hsz hpre hI hK
      have HK2 := Lib.hid hK
      clear hK
      unfold encF fdV
      gi_wp2
      exact HK2.out _ _ ((Only.refl _ _ _).alloc hsz _) ((SzI.steady (B := w.heap.size + 1) (by omega) (G := fun r => w.heap.size < r) (fun r hr => hr)).alloc hI _) ⟨W.heap.size, rfl, hsz, World.alloc_heap_new W _⟩
    case body =>
      rintro l pre x a₁ W hsz hpre ⟨hc, hb⟩ ⟨B, rfl, hB, hBc⟩
      have hsp := sizesOf_pre hpre
      have h58 := sizes_small (k := k)
      rw [sizesOf_app] at hsp
      simp only [sizesOf] at hsp
      obtain ⟨N, hN⟩ : ∃ N, 1 + sizesOf pre = N := ⟨_, rfl⟩
      obtain ⟨s, hs⟩ : ∃ s, sizeN x = s := ⟨_, rfl⟩
      rw [hs] at hsp
      have hN9 : N + s ≤ 100 := by omega
      rw [hN] at hc
      unfold fdV at hBc
      rw [hs] at hBc
      have c0 : W.cell? ⟨w.heap.size, 0, none⟩ = some (.int .i64 (N : Nat)) := cell_of_row W _ 0 _ _ _ hc
      have c1 : W.cell? ⟨B, 1, none⟩ = some (.int .i64 (s : Nat)) := cell_of_row W B 1 _ _ _ hBc
      have f0 : W.frozen? ⟨w.heap.size, 0, none⟩ = false := frozen_of_row W _ 0 _ _ hc
      have HPOST := Lib.hid (show Only (X.heap.size + 2) (fun j => j = w.heap.size) W (W.setCell ⟨w.heap.size, 0, none⟩ (.int .i64 ((N + s : Nat) : Int))) ∧ SzI w (pre ++ [x]) (W.setCell ⟨w.heap.size, 0, none⟩ (.int .i64 ((N + s : Nat) : Int))) from
        ⟨(Only.refl (X.heap.size + 2) (fun j => j = w.heap.size) W).setCell ⟨w.heap.size, 0, none⟩ rfl _, by
          have e := heap_setCell_same W w.heap.size 0 _ _ (.int .i64 ((N + s : Nat) : Int)) hc
          refine ⟨?_, hb.setCell (p := ⟨w.heap.size, 0, none⟩) (Nat.le_refl _) _⟩
          rw [sizesOf_app, show 1 + (sizesOf pre + sizesOf [x]) = N + s by simp only [sizesOf]; omega]
          exact e⟩)
      have HW := Lib.hid (show wrap64 ((N : Int) + (s : Int)) = ((N + s : Nat) : Int) by unfold wrap64; omega)
      clear hsp h58 hN hs hc hb hBc hB hsz hpre hN9
      have hw := HW.out
      gi_wp2
      exact HPOST.out
    case done =>
      rintro D W hge ⟨hc, hb⟩ hD
      obtain ⟨N, hN⟩ : ∃ N, 1 + sizesOf (layN k) = N := ⟨_, rfl⟩
      rw [hN] at hc
      have HLN := Lib.hid (show lenK (k : Int) = N by rw [HLK.out]; exact hN)
      have c0 : W.cell? ⟨w.heap.size, 0, none⟩ = some (.int .i64 (N : Nat)) := cell_of_row W _ 0 _ _ _ hc
      have HB := Lib.hid hb
      have HD := Lib.hid hD
      have HGE := Lib.hid hge
      have HSX := Lib.hid sX
      clear hc hb hD hge hN sX hBX y0 y1
      gi_wp2
      refine ⟨by simp, .inl ⟨_, _, rfl, run_takeDeferred HD.out, ?_⟩⟩
      exact ⟨.int .i64 (N : Nat), by simp [results, Tryd.results26, go_sem], by rw [HLN.out], HB.out.trans (belowK_b (w := w) (Nat.le_refl _) _ D _ _ (by have := HGE.out; have := HSX.out; omega) HD.out rfl rfl)⟩
    case stop =>
      rintro D pre W _ _ hF _
      exact hF.elim
  · have e : nameS n = ⟨#[]⟩ := by
      unfold nameS
      split
      · have : n = 0 := by omega
        rw [this]; rfl
      · rfl
    have e2 : lenK n = 0 := by unfold lenK; rw [if_neg hk]
    rw [e] at HNM
    rw [e2]
    clear hn hT hk e e2
    go_enter Tryd.func26, Tryd.ntmps26
    go_wp2_with fail
    refine HNM.out.mono ?_
    rintro e W ⟨rfl, rfl⟩
    go_wp2
    go_ret
    exact ⟨rfl, Below.refl _ _⟩
end Go.Proofs.YtmeamdfmcpkofaaDoor
