/- The contract of numbersOf. -/
import Derived.Test.YtjlejpenegjbcaaDoorKShape
import Derived.WalkSmall
set_option linter.unusedVariables false
set_option linter.unusedSimpArgs false
namespace Go.Proofs.YtjlejpenegjbcaaDoor
open Go.RowKit Go.Shelf
def NT : TypeId := 70
/-- A row of n numbers. -/
def nums (k : IntKind) (n : Nat) (f : Nat → Int) : Array Value := ((List.range n).map (fun i => Value.int k (f i))).toArray
theorem nums_get (k : IntKind) (n : Nat) (f : Nat → Int) (j : Nat) (hj : j < n) : (nums k n f)[j]? = some (.int k (f j)) := by simp [nums, hj]
theorem nums_set (k : IntKind) (n : Nat) (f : Nat → Int) (j : Nat) (x : Int) (hj : j < n) : (nums k n f).setIfInBounds j (.int k x) = nums k n (fun i => if i = j then x else f i) := by
  apply Array.ext_getElem?
  intro i
  rw [Array.getElem?_setIfInBounds]
  by_cases h : j = i
  · subst h; simp [nums, hj]
  · rw [if_neg h]
    by_cases hi : i < n
    · simp [nums, hi, show ¬ i = j from fun e => h e.symm]
    · simp [nums, hi]
theorem nums_congr {k : IntKind} {n : Nat} {f g : Nat → Int} (h : ∀ j, j < n → f j = g j) : nums k n f = nums k n g := by
  unfold nums
  rw [List.map_congr_left (fun i hi => by rw [h i (by simpa using hi)])]
theorem results_numbers {f : Nat → Int} {ok : Bool} {b : Nat} {tmps : Array Value} {w : World} (h2 : tmps.getD 4 undef = .pointer (some ⟨b, 0, none⟩)) (h3 : tmps.getD 5 undef = .bool ok)
    (hb : w.heap[b]? = some (.cells (nums .i64 6 f) 70 (0, 0))) : (results Tryd.f49 tmps).run Tryd.prog w = .ok (.tuple #[.agg (nums .i64 6 f), .bool ok]) w := by
  have c := fun j (hj : j < 6) => (cell_of_row w b j _ _ _ hb).trans (nums_get .i64 6 f j hj)
  have c0 := c 0 (by omega)
  have c1 := c 1 (by omega)
  have c2 := c 2 (by omega)
  have c3 := c 3 (by omega)
  have c4 := c 4 (by omega)
  have c5 := c 5 (by omega)
  simp only [Array.getD_eq_getD_getElem?] at h2 h3
  simp [results, Tryd.results49, go_sem, h2, h3, c0, c1, c2, c3, c4, c5]
  rfl
theorem numbers_len (s F : ByteArray) (h : s.size ≠ F.size) (w : World) :
    Calls Tryd.prog 49 #[.string s, .string F] w fun e w' => e = .returned (.tuple #[.agg (nums .i64 6 fun _ => 0), .bool false]) ∧ Below w.heap.size w w' := by
  have hg : ((s.size : Int) != (F.size : Int)) = true := by simp; omega
  go_enter Tryd.func49, Tryd.ntmps49
  go_wp2
  refine bodyPost_ret (results_numbers (f := fun _ => 0) rfl rfl (heap_old (heap_alloc_new w _) _)) rfl ?_
  exact ⟨rfl, ((Below.refl _ w).alloc (Nat.le_refl _) _).alloc (by simp) _⟩
theorem decode_low (s : ByteArray) (k : Nat) (h : k < s.size) (hb : bt s k < 128) : Utf8.decode s k = ((bt s k).toNat, 1) := by
  rw [bt_at s k h] at hb ⊢
  rw [decode_ascii s k h (by omega)]
  simp
theorem decode_hi (s : ByteArray) (k : Nat) (h : k < s.size) (hb : 128 ≤ bt s k) : 128 ≤ (Utf8.decode s k).1 := by
  rw [bt_at s k h] at hb
  exact (decode_high s k h (by omega)).1
set_option maxRecDepth 100000 in
set_option maxHeartbeats 4000000 in
theorem numbers_go (s F : ByteArray) (h : s.size = F.size) (hF : ShapeOk (strB F)) (hsz : s.size ≤ 1000) (w : World) :
    Calls Tryd.prog 49 #[.string s, .string F] w fun e w' => ((Fits (strB F) (strB s) ∧ e = .returned (.tuple #[.agg (nums .i64 6 (num (strB F) (strB s) s.size)), .bool true])) ∨ (¬ Fits (strB F) (strB s) ∧ e = .returned (.tuple #[.agg (nums .i64 6 fun _ => 0), .bool false]))) ∧ Below w.heap.size w w' := by
  have hg : ((s.size : Int) != (F.size : Int)) = false := by simp [h]
  have hlen : (strB F).length = s.size := by rw [strB_length, h]
  have hlen2 : (strB s).length = (strB F).length := by rw [hlen, strB_length]
  have HLEN := Lib.hid hlen
  have HLEN2 := Lib.hid hlen2
  have HF := Lib.hid hF
  have HFS := Lib.hid h
  clear hlen hlen2 hF h
  go_enter Tryd.func49, Tryd.ntmps49
  go_wp2
  clear hg
  go_loopw [7] (fun p wr => ∃ k : Nat, k ≤ s.size ∧ p = .int .i64 (plc (strB F) k) ∧ (∀ i, i < k → okAt (strB F) (strB s) i) ∧ wr.heap[w.heap.size]? = some (.cells (nums .i64 6 fun _ => 0) 70 (0, 0)) ∧
      wr.heap[w.heap.size + 1]? = some (.cells (nums .i64 6 (num (strB F) (strB s) k)) 70 (0, 0)) ∧ wr.heap[w.heap.size + 2]? = some (.stringIter s k) ∧ Below w.heap.size w wr) (fun _ wr => s.size - wr.iterPos (w.heap.size + 2))
  case atStart =>
    have i1 := heap_alloc_new (w.alloc (.cells (nums .i64 6 fun _ => 0) 70)) (.cells (nums .i64 6 fun _ => 0) 70)
    rw [World.size_alloc] at i1
    have i2 := World.iter_heap ((w.alloc (.cells (nums .i64 6 fun _ => 0) 70)).alloc (.cells (nums .i64 6 fun _ => 0) 70)) s 0
    simp only [World.size_alloc] at i2
    exact ⟨0, Nat.zero_le _, rfl, fun i hi => absurd hi (Nat.not_lt_zero _), heap_old (heap_old (heap_alloc_new w _) _) _, heap_old i1 _, i2, (((Below.refl _ w).alloc (Nat.le_refl _) _).alloc (by simp) _).alloc (by simp; omega) _⟩
  case round =>
    obtain ⟨k, hk, rfl, hok, r1, r2, hit, hB⟩ := hrel
    by_cases hlt : k < s.size
    · have hq := bt_bd s k
      have hf := HF.out k (by rw [HLEN.out]; exact hlt)
      have hix := idx_str F k (by rw [← HFS.out]; exact hlt)
      have hbF : bt F k = (strB F).getD k 0 := rfl
      have hbS : bt s k = (strB s).getD k 0 := rfl
      by_cases hlo : bt s k < 128
      · have hnx : ∀ ty, (Instr.next (.pointer (some ⟨w.heap.size + 2, 0, none⟩)) true ty).run Tryd.prog wr = .ok (.tuple #[.bool true, .int .i64 k, .int .i32 (bt s k)]) (wr.iterAt (w.heap.size + 2) s (k + 1)) := fun ty => by
          rw [Lib.run_next_any_at wr (w.heap.size + 2) s k ty hit hlt, decode_low s k hlt hlo]
          simp only [Int.toNat_of_nonneg hq.1]
        have w1 : (wr.iterAt (w.heap.size + 2) s (k + 1)).heap[w.heap.size]? = some (.cells (nums .i64 6 fun _ => 0) 70 (0, 0)) := (Lib.iterAt_other wr _ _ s _ (by omega)).trans r1
        have w2 : (wr.iterAt (w.heap.size + 2) s (k + 1)).heap[w.heap.size + 1]? = some (.cells (nums .i64 6 (num (strB F) (strB s) k)) 70 (0, 0)) := (Lib.iterAt_other wr _ _ s _ (by omega)).trans r2
        have w3 := Lib.iterAt_heap wr (w.heap.size + 2) s k (k + 1) hit
        have w4 := Lib.below_iterAt hB (k := w.heap.size + 2) (by omega) s (k + 1)
        have W1 := Lib.hid w1
        have W2 := Lib.hid w2
        have W3 := Lib.hid w3
        have W4 := Lib.hid w4
        have HIT := Lib.hid hit
        clear w1 w3 w4 r1 r2 hB
        have hzc := fun j (hj : j < 6) => (cell_of_row _ w.heap.size j _ _ _ W1.out).trans (nums_get .i64 6 (fun _ => 0) j hj)
        have hzf := fun j => frozen_of_row _ w.heap.size j _ _ W1.out
        by_cases c48 : (strB F).getD k 0 = 48
        · obtain ⟨b1, b2, b3⟩ := num_small HF.out (by rw [HLEN.out]; exact hlt) hok c48
          rw [hbF, c48] at hix
          have hcell : (wr.iterAt (w.heap.size + 2) s (k + 1)).cell? ⟨w.heap.size + 1, plc (strB F) k, none⟩ = some (.int .i64 (num (strB F) (strB s) k (plc (strB F) k))) := (cell_of_row _ _ _ _ _ _ w2).trans (nums_get .i64 6 _ _ (by omega))
          have hfz := frozen_of_row _ (w.heap.size + 1) (plc (strB F) k) _ _ w2
          have HOK := Lib.hid hok
          have C48 := Lib.hid c48
          have HBS := Lib.hid hbS
          obtain ⟨x, hx⟩ : ∃ x, x = bt s k := ⟨_, rfl⟩
          obtain ⟨p, hp⟩ : ∃ p, p = plc (strB F) k := ⟨_, rfl⟩
          obtain ⟨v, hv⟩ : ∃ v, v = num (strB F) (strB s) k p := ⟨_, rfl⟩
          rw [← hp] at hcell hfz b1 b2 b3
          rw [← hv] at hcell b2 b3
          rw [← hx] at hq hlo
          simp only [← hx] at hnx
          rw [← hp]
          have HX := Lib.hid hx
          have HP := Lib.hid hp
          have HV := Lib.hid hv
          have hpi : (p : Int) < 6 := by omega
          by_cases hd : 48 ≤ x ∧ x ≤ 57
          · obtain ⟨d1, d2⟩ := hd
            clear hok c48 hbS hx hp hv hf hbF hzc hzf w2 hit
            go_wp2
            go_roundw
            case rel =>
              have ep : plc (strB F) (k + 1) = plc (strB F) k := by simp only [plc]; rw [if_pos C48.out]
              have en : (fun j => if j = p then 10 * v + (x - 48) else num (strB F) (strB s) k j) = num (strB F) (strB s) (k + 1) := by
                funext j
                simp only [num]
                by_cases hj : j = p
                · rw [if_pos hj, if_pos ⟨C48.out, by rw [hj, HP.out]⟩, hj, ← HV.out, ← HBS.out, ← HX.out]
                · rw [if_neg hj, if_neg (fun hc => hj (by rw [hc.2, HP.out]))]
              have hrow := heap_setCell_same _ (w.heap.size + 1) p _ _ (.int .i64 (10 * v + (x - 48))) W2.out
              rw [nums_set _ _ _ _ _ (by omega), en] at hrow
              refine ⟨k + 1, by omega, by rw [ep, HP.out], ?_, (heap_setCell_other _ ⟨w.heap.size + 1, p, none⟩ w.heap.size _ (by simp)).trans W1.out, hrow, (heap_setCell_other _ ⟨w.heap.size + 1, p, none⟩ (w.heap.size + 2) _ (by simp)).trans W3.out, W4.out.setCell (p := ⟨w.heap.size + 1, p, none⟩) (by simp) _⟩
              intro i hi
              by_cases hik : i = k
              · subst hik
                unfold okAt
                rw [if_pos C48.out, ← HBS.out, ← HX.out]
                exact ⟨d1, d2⟩
              · exact HOK.out i (by omega)
            case measure =>
              have e1 := iterPos_of HIT.out
              have e2 : ((wr.iterAt (w.heap.size + 2) s (k + 1)).setCell ⟨w.heap.size + 1, p, none⟩ (.int .i64 (10 * v + (x - 48)))).iterPos (w.heap.size + 2) = k + 1 := iterPos_of ((heap_setCell_other _ ⟨w.heap.size + 1, p, none⟩ (w.heap.size + 2) _ (by simp)).trans W3.out)
              rw [e1, e2]; omega
          · have hnf : ¬ Fits (strB F) (strB s) := fun hc => by
              have := hc.2 k (by rw [HLEN.out]; exact hlt)
              unfold okAt at this
              rw [if_pos C48.out, ← HBS.out, ← HX.out] at this
              exact hd this
            have HNF := Lib.hid hnf
            have z0 := hzc 0 (by omega)
            have y0 := hzf 0
            have z1 := hzc 1 (by omega)
            have y1 := hzf 1
            have z2 := hzc 2 (by omega)
            have y2 := hzf 2
            have z3 := hzc 3 (by omega)
            have y3 := hzf 3
            have z4 := hzc 4 (by omega)
            have y4 := hzf 4
            have z5 := hzc 5 (by omega)
            have y5 := hzf 5
            clear hok c48 hbS hx hp hv hf hbF hzc hzf w2 hit hnf
            by_cases hd1 : 48 ≤ x
            · have hd2 : 57 < x := by omega
              clear hd
              go_wp2
              have hrow := (heap_setCell_same _ w.heap.size 5 _ _ (.int .i64 0) (heap_setCell_same _ w.heap.size 4 _ _ (.int .i64 0) (heap_setCell_same _ w.heap.size 3 _ _ (.int .i64 0) (heap_setCell_same _ w.heap.size 2 _ _ (.int .i64 0) (heap_setCell_same _ w.heap.size 1 _ _ (.int .i64 0) (heap_setCell_same _ w.heap.size 0 _ _ (.int .i64 0) (W1.out)))))))
              refine bodyPost_ret (results_numbers (f := fun _ => 0) rfl rfl hrow) rfl ?_
              exact ⟨.inr ⟨HNF.out, rfl⟩, ((((((W4.out.setCell (p := ⟨w.heap.size, 0, none⟩) (by simp) (.int .i64 0)).setCell (p := ⟨w.heap.size, 1, none⟩) (by simp) (.int .i64 0)).setCell (p := ⟨w.heap.size, 2, none⟩) (by simp) (.int .i64 0)).setCell (p := ⟨w.heap.size, 3, none⟩) (by simp) (.int .i64 0)).setCell (p := ⟨w.heap.size, 4, none⟩) (by simp) (.int .i64 0)).setCell (p := ⟨w.heap.size, 5, none⟩) (by simp) (.int .i64 0))⟩
            · clear hd
              have hd3 : x < 48 := by omega
              clear hd1
              go_wp2
              have hrow := (heap_setCell_same _ w.heap.size 5 _ _ (.int .i64 0) (heap_setCell_same _ w.heap.size 4 _ _ (.int .i64 0) (heap_setCell_same _ w.heap.size 3 _ _ (.int .i64 0) (heap_setCell_same _ w.heap.size 2 _ _ (.int .i64 0) (heap_setCell_same _ w.heap.size 1 _ _ (.int .i64 0) (heap_setCell_same _ w.heap.size 0 _ _ (.int .i64 0) (W1.out)))))))
              refine bodyPost_ret (results_numbers (f := fun _ => 0) rfl rfl hrow) rfl ?_
              exact ⟨.inr ⟨HNF.out, rfl⟩, ((((((W4.out.setCell (p := ⟨w.heap.size, 0, none⟩) (by simp) (.int .i64 0)).setCell (p := ⟨w.heap.size, 1, none⟩) (by simp) (.int .i64 0)).setCell (p := ⟨w.heap.size, 2, none⟩) (by simp) (.int .i64 0)).setCell (p := ⟨w.heap.size, 3, none⟩) (by simp) (.int .i64 0)).setCell (p := ⟨w.heap.size, 4, none⟩) (by simp) (.int .i64 0)).setCell (p := ⟨w.heap.size, 5, none⟩) (by simp) (.int .i64 0))⟩
        · have hnok : ∀ (_ : okAt (strB F) (strB s) k), bt s k = bt F k := fun h => by unfold okAt at h; rw [if_neg c48] at h; exact h
          have hyok : bt s k = bt F k → okAt (strB F) (strB s) k := fun h => by unfold okAt; rw [if_neg c48]; exact h
          have HN := Lib.hid hnok
          have HYK := Lib.hid hyok
          have HOK := Lib.hid hok
          have C48 := Lib.hid c48
          have hf1 := hf.1
          rw [← hbF] at hf1 c48
          obtain ⟨x, hx⟩ : ∃ x, x = bt s k := ⟨_, rfl⟩
          obtain ⟨f, hfe⟩ : ∃ x, x = bt F k := ⟨_, rfl⟩
          obtain ⟨p, hp⟩ : ∃ p, p = plc (strB F) k := ⟨_, rfl⟩
          have hpk : p ≤ k := by rw [hp]; exact plc_le _ _
          rw [← hx] at hq hlo
          simp only [← hx] at hnx
          rw [← hfe] at hf1 c48
          rw [← hfe] at hix
          rw [← hp]
          have HX := Lib.hid hx
          have HFE := Lib.hid hfe
          have HP := Lib.hid hp
          have g48 : (f == 48) = false := by simp [c48]
          have n48 : (f != 48) = true := by simp [c48]
          by_cases hxf : x = f
          · have gx : (x == f) = true := by simp [hxf]
            have HXF := Lib.hid hxf
            clear hok hbS hx hfe hp hf hbF hzc hzf w2 hit hnok hyok hxf c48
            go_wp2
            go_roundw
            case rel =>
              have ep : plc (strB F) (k + 1) = plc (strB F) k + 1 := by simp only [plc]; rw [if_neg C48.out]
              have en : num (strB F) (strB s) (k + 1) = num (strB F) (strB s) k := by
                funext j
                simp only [num]
                rw [if_neg (fun hc => C48.out hc.1)]
              refine ⟨k + 1, by omega, by rw [ep, HP.out]; go_num, ?_, W1.out, by rw [en]; exact W2.out, W3.out, W4.out⟩
              intro i hi
              by_cases hik : i = k
              · subst hik
                exact HYK.out (by rw [← HX.out, ← HFE.out]; exact HXF.out)
              · exact HOK.out i (by omega)
            case measure =>
              rw [iterPos_of HIT.out, iterPos_of W3.out]; omega
          · have gx : (x == f) = false := by simp [hxf]
            have hnf : ¬ Fits (strB F) (strB s) := fun hc => by
              have := HN.out (hc.2 k (by rw [HLEN.out]; exact hlt))
              rw [← HX.out, ← HFE.out] at this
              exact hxf this
            have HNF := Lib.hid hnf
            have z0 := hzc 0 (by omega)
            have y0 := hzf 0
            have z1 := hzc 1 (by omega)
            have y1 := hzf 1
            have z2 := hzc 2 (by omega)
            have y2 := hzf 2
            have z3 := hzc 3 (by omega)
            have y3 := hzf 3
            have z4 := hzc 4 (by omega)
            have y4 := hzf 4
            have z5 := hzc 5 (by omega)
            have y5 := hzf 5
            clear hok hbS hx hfe hp hf hbF hzc hzf w2 hit hnok hyok hxf hnf c48
            go_wp2
            have hrow := (heap_setCell_same _ w.heap.size 5 _ _ (.int .i64 0) (heap_setCell_same _ w.heap.size 4 _ _ (.int .i64 0) (heap_setCell_same _ w.heap.size 3 _ _ (.int .i64 0) (heap_setCell_same _ w.heap.size 2 _ _ (.int .i64 0) (heap_setCell_same _ w.heap.size 1 _ _ (.int .i64 0) (heap_setCell_same _ w.heap.size 0 _ _ (.int .i64 0) (W1.out)))))))
            refine bodyPost_ret (results_numbers (f := fun _ => 0) rfl rfl hrow) rfl ?_
            exact ⟨.inr ⟨HNF.out, rfl⟩, ((((((W4.out.setCell (p := ⟨w.heap.size, 0, none⟩) (by simp) (.int .i64 0)).setCell (p := ⟨w.heap.size, 1, none⟩) (by simp) (.int .i64 0)).setCell (p := ⟨w.heap.size, 2, none⟩) (by simp) (.int .i64 0)).setCell (p := ⟨w.heap.size, 3, none⟩) (by simp) (.int .i64 0)).setCell (p := ⟨w.heap.size, 4, none⟩) (by simp) (.int .i64 0)).setCell (p := ⟨w.heap.size, 5, none⟩) (by simp) (.int .i64 0))⟩
      · have hhi := decode_hi s k hlt (by omega)
        have hdle := decode_le s k
        have hnx : ∀ ty, (Instr.next (.pointer (some ⟨w.heap.size + 2, 0, none⟩)) true ty).run Tryd.prog wr = .ok (.tuple #[.bool true, .int .i64 k, .int .i32 (Utf8.decode s k).1]) (wr.iterAt (w.heap.size + 2) s (k + (Utf8.decode s k).2)) := fun ty => Lib.run_next_any_at wr (w.heap.size + 2) s k ty hit hlt
        have w1 : (wr.iterAt (w.heap.size + 2) s (k + (Utf8.decode s k).2)).heap[w.heap.size]? = some (.cells (nums .i64 6 fun _ => 0) 70 (0, 0)) := (Lib.iterAt_other wr _ _ s _ (by omega)).trans r1
        have w4 := Lib.below_iterAt hB (k := w.heap.size + 2) (by omega) s (k + (Utf8.decode s k).2)
        have hzc := fun j (hj : j < 6) => (cell_of_row _ w.heap.size j _ _ _ w1).trans (nums_get .i64 6 (fun _ => 0) j hj)
        have hzf := fun j => frozen_of_row _ w.heap.size j _ _ w1
        have hnf : ¬ Fits (strB F) (strB s) := fun hc => by
          have h3 := hc.2 k (by rw [HLEN.out]; exact hlt)
          unfold okAt at h3
          rw [← hbF, ← hbS] at h3
          have hf1 := hf.1
          rw [← hbF] at hf1
          by_cases c : bt F k = 48
          · rw [if_pos c] at h3; omega
          · rw [if_neg c] at h3; omega
        have HNF := Lib.hid hnf
        have W1 := Lib.hid w1
        have W4 := Lib.hid w4
        have z0 := hzc 0 (by omega)
        have y0 := hzf 0
        have z1 := hzc 1 (by omega)
        have y1 := hzf 1
        have z2 := hzc 2 (by omega)
        have y2 := hzf 2
        have z3 := hzc 3 (by omega)
        have y3 := hzf 3
        have z4 := hzc 4 (by omega)
        have y4 := hzf 4
        have z5 := hzc 5 (by omega)
        have y5 := hzf 5
        have hf1 := hf.1
        rw [← hbF] at hf1
        generalize (Utf8.decode s k).1 = r at *
        generalize wr.iterAt (w.heap.size + 2) s (k + (Utf8.decode s k).2) = X at *
        generalize bt F k = f at *
        have hri : (128 : Int) ≤ (r : Int) ∧ (r : Int) ≤ 2147483647 := by omega
        have grf : ((r : Int) == f) = false := by simp; omega
        by_cases c48 : f = 48
        · subst c48
          have g57 : 57 < (r : Int) := by omega
          have g48 : (48 : Int) ≤ (r : Int) := by omega
          clear hok r1 r2 hit hB hf hbF hbS hnf w1 w4 hzc hzf hhi hdle hf1 hlo hq
          go_wp2
          have hrow := (heap_setCell_same _ w.heap.size 5 _ _ (.int .i64 0) (heap_setCell_same _ w.heap.size 4 _ _ (.int .i64 0) (heap_setCell_same _ w.heap.size 3 _ _ (.int .i64 0) (heap_setCell_same _ w.heap.size 2 _ _ (.int .i64 0) (heap_setCell_same _ w.heap.size 1 _ _ (.int .i64 0) (heap_setCell_same _ w.heap.size 0 _ _ (.int .i64 0) (W1.out)))))))
          refine bodyPost_ret (results_numbers (f := fun _ => 0) rfl rfl hrow) rfl ?_
          exact ⟨.inr ⟨HNF.out, rfl⟩, ((((((W4.out.setCell (p := ⟨w.heap.size, 0, none⟩) (by simp) (.int .i64 0)).setCell (p := ⟨w.heap.size, 1, none⟩) (by simp) (.int .i64 0)).setCell (p := ⟨w.heap.size, 2, none⟩) (by simp) (.int .i64 0)).setCell (p := ⟨w.heap.size, 3, none⟩) (by simp) (.int .i64 0)).setCell (p := ⟨w.heap.size, 4, none⟩) (by simp) (.int .i64 0)).setCell (p := ⟨w.heap.size, 5, none⟩) (by simp) (.int .i64 0))⟩
        · have g48 : (f == 48) = false := by simp [c48]
          have n48 : (f != 48) = true := by simp [c48]
          clear hok r1 r2 hit hB hf hbF hbS hnf w1 w4 hzc hzf hhi hdle hlo hq c48
          go_wp2
          have hrow := (heap_setCell_same _ w.heap.size 5 _ _ (.int .i64 0) (heap_setCell_same _ w.heap.size 4 _ _ (.int .i64 0) (heap_setCell_same _ w.heap.size 3 _ _ (.int .i64 0) (heap_setCell_same _ w.heap.size 2 _ _ (.int .i64 0) (heap_setCell_same _ w.heap.size 1 _ _ (.int .i64 0) (heap_setCell_same _ w.heap.size 0 _ _ (.int .i64 0) (W1.out)))))))
          refine bodyPost_ret (results_numbers (f := fun _ => 0) rfl rfl hrow) rfl ?_
          exact ⟨.inr ⟨HNF.out, rfl⟩, ((((((W4.out.setCell (p := ⟨w.heap.size, 0, none⟩) (by simp) (.int .i64 0)).setCell (p := ⟨w.heap.size, 1, none⟩) (by simp) (.int .i64 0)).setCell (p := ⟨w.heap.size, 2, none⟩) (by simp) (.int .i64 0)).setCell (p := ⟨w.heap.size, 3, none⟩) (by simp) (.int .i64 0)).setCell (p := ⟨w.heap.size, 4, none⟩) (by simp) (.int .i64 0)).setCell (p := ⟨w.heap.size, 5, none⟩) (by simp) (.int .i64 0))⟩
    · obtain rfl : k = s.size := by omega
      have hnx : ∀ ty, (Instr.next (.pointer (some ⟨w.heap.size + 2, 0, none⟩)) true ty).run Tryd.prog wr = .ok (.tuple #[.bool false]) wr := fun ty => Lib.run_next_end_at wr (w.heap.size + 2) s s.size ty hit (by omega)
      have hfit : Fits (strB F) (strB s) := ⟨HLEN2.out, fun i hi => hok i (by rw [HLEN.out] at hi; exact hi)⟩
      have hnc := fun j (hj : j < 6) => (cell_of_row _ (w.heap.size + 1) j _ _ _ r2).trans (nums_get .i64 6 (num (strB F) (strB s) s.size) j hj)
      have hzc := fun j (hj : j < 6) => (cell_of_row _ w.heap.size j _ _ _ r1).trans (nums_get .i64 6 (fun _ => 0) j hj)
      have hzf := fun j => frozen_of_row _ w.heap.size j _ _ r1
      have c0 := hnc 0 (by omega)
      have z0 := hzc 0 (by omega)
      have y0 := hzf 0
      have c1 := hnc 1 (by omega)
      have z1 := hzc 1 (by omega)
      have y1 := hzf 1
      have c2 := hnc 2 (by omega)
      have z2 := hzc 2 (by omega)
      have y2 := hzf 2
      have c3 := hnc 3 (by omega)
      have z3 := hzc 3 (by omega)
      have y3 := hzf 3
      have c4 := hnc 4 (by omega)
      have z4 := hzc 4 (by omega)
      have y4 := hzf 4
      have c5 := hnc 5 (by omega)
      have z5 := hzc 5 (by omega)
      have y5 := hzf 5
      have HFIT := Lib.hid hfit
      have R1 := Lib.hid r1
      have HB := Lib.hid hB
      generalize hnn : num (strB F) (strB s) s.size = nn at *
      have NN := Lib.hid hnn
      clear hok r1 r2 hit hB hfit hnc hzc hzf hnn
      go_wp2
      have hrow := (heap_setCell_same _ w.heap.size 5 _ _ (.int .i64 (nn 5)) (heap_setCell_same _ w.heap.size 4 _ _ (.int .i64 (nn 4)) (heap_setCell_same _ w.heap.size 3 _ _ (.int .i64 (nn 3)) (heap_setCell_same _ w.heap.size 2 _ _ (.int .i64 (nn 2)) (heap_setCell_same _ w.heap.size 1 _ _ (.int .i64 (nn 1)) (heap_setCell_same _ w.heap.size 0 _ _ (.int .i64 (nn 0)) R1.out))))))
      refine bodyPost_ret (results_numbers (f := nn) rfl rfl hrow) rfl ?_
      exact ⟨.inl ⟨HFIT.out, by rw [NN.out]⟩, ((((((HB.out.setCell (p := ⟨w.heap.size, 0, none⟩) (by simp) _).setCell (p := ⟨w.heap.size, 1, none⟩) (by simp) _).setCell (p := ⟨w.heap.size, 2, none⟩) (by simp) _).setCell (p := ⟨w.heap.size, 3, none⟩) (by simp) _).setCell (p := ⟨w.heap.size, 4, none⟩) (by simp) _).setCell (p := ⟨w.heap.size, 5, none⟩) (by simp) _)⟩
end Go.Proofs.YtjlejpenegjbcaaDoor
