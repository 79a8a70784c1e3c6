/- The contract of days.Next. -/
import Derived.Test.YtgedcfgmfhlkdaaDoorHKit
set_option linter.unusedVariables false
set_option linter.unusedSimpArgs false
namespace Go.Proofs.YtgedcfgmfhlkdaaDoor
open Go.RowKit Go.Shelf
attribute [local go_sem] Oper.semAt_some
def NextIs (H : Nat → Ho) (hl : Nat) (x kd n : Int) (is : Bool) : Prop :=
  (is = true ∧ x ≤ n ∧ n ≤ x + 3700 ∧ n ≤ 2932896 ∧ kindD H hl n = kd ∧ ∀ i, x ≤ i → i < n → kindD H hl i ≠ kd) ∨ (is = false ∧ n = 0 ∧ ∀ i, x ≤ i → i ≤ x + 3700 → i ≤ 2932896 → kindD H hl i ≠ kd)
/-- No day of these is of the kind, from x on. -/
def NoHit (x kd : Int) (pre : List DayK) : Prop := ∀ z ∈ pre, ¬ (x ≤ z.1.1 ∧ z.1.2 = kd)
theorem NoHit.snoc {x kd : Int} {pre : List DayK} {z : DayK} (h : NoHit x kd pre) (hz : ¬ (x ≤ z.1.1 ∧ z.1.2 = kd)) : NoHit x kd (pre ++ [z]) := by
  intro q hq
  rcases List.mem_append.1 hq with h' | h'
  · exact h q h'
  · rw [List.mem_singleton.1 h']; exact hz
/-- How the search ends early. -/
def StopN (x kd : Int) (b10 b11 : Nat) (pre : List DayK) (W : World) : Prop :=
  ∃ (q : List DayK) (z : DayK) (n : Int) (is : Bool), pre = q ++ [z] ∧ NoHit x kd q ∧ W.heap[b10]? = some (.cells #[.int .i64 n] 3 (0, 0)) ∧ W.heap[b11]? = some (.cells #[.bool is] 4 (0, 0)) ∧
    ((x + 3700 < z.1.1 ∧ n = 0 ∧ is = false) ∨ (z.1.1 ≤ x + 3700 ∧ x ≤ z.1.1 ∧ z.1.2 = kd ∧ n = z.1.1 ∧ is = true))
theorem upto_last {α : Type} {f : Nat → α} {k : Nat} {q : List α} {z : α} (h : upto f k = q ++ [z]) : ∃ j, k = j + 1 ∧ q = upto f j ∧ z = f j := by
  cases k with
  | zero => simp [upto] at h
  | succ j =>
    rw [upto_succ] at h
    have := List.append_inj' h rfl
    exact ⟨j, rfl, this.1.symm, by simpa using this.2.symm⟩
theorem no_hit {H : Nat → Ho} {hl k : Nat} {s x kd i : Int} (hall : NoHit x kd (upto (dayK H hl s) k)) (hs : s ≤ x) (hk : s + k ≤ 2932897) (h0 : 0 ≤ s) (hi0 : x ≤ i) (hi1 : i < s + k) : kindD H hl i ≠ kd := by
  obtain ⟨j, hj⟩ : ∃ j : Nat, s + (j : Int) = i := ⟨(i - s).toNat, by omega⟩
  have hv := dayK_val (H := H) (hl := hl) (s := s) (i := j) (by omega)
  have hm : dayK H hl s j ∈ upto (dayK H hl s) k := by
    unfold upto
    exact List.mem_map.2 ⟨j, List.mem_range.2 (by omega), rfl⟩
  intro e
  refine hall _ hm ?_
  rw [hv, hj]
  exact ⟨hi0, e⟩
set_option maxRecDepth 100000 in
set_option maxHeartbeats 2000000 in
theorem next_bad (ha : Option Addr) (hl hc : Nat) (sa : Option Addr) (sl sc : Nat) (H : Nat → Ho) (S : Nat → Se) (x kd : Int) (hcal : ¬ CalIs H hl S sl) (w : World) (hH : HosAt w.heap.size w ha hl H) (hS : SeasAt w.heap.size w sa sl S) (hT : Tabs w) (hlm : hl ≤ maxLen) (slm : sl ≤ maxLen) :
    Calls Tryd.prog 23 #[calV ha hl hc sa sl sc, .int .i64 x, .int .i64 kd] w fun e w' => e = .returned (.tuple #[.int .i64 0, .bool false]) ∧ Below w.heap.size w w' := by
  have hb0 := (((Below.refl _ w).alloc (Nat.le_refl _) (.cells #[.slice ha hl hc, .slice sa sl sc] 25)).alloc (by simp) (.cells #[.int .i64 x] 3)).alloc (by simp; omega) (.cells #[.int .i64 kd] 3)
  have hzc : (((w.alloc (.cells #[.slice ha hl hc, .slice sa sl sc] 25)).alloc (.cells #[.int .i64 x] 3)).alloc (.cells #[.int .i64 kd] 3)).heap[w.heap.size]? = some (.cells #[.slice ha hl hc, .slice sa sl sc] 25) := heap_old (heap_old (heap_alloc_new w _) _) _
  have hzx : (((w.alloc (.cells #[.slice ha hl hc, .slice sa sl sc] 25)).alloc (.cells #[.int .i64 x] 3)).alloc (.cells #[.int .i64 kd] 3)).heap[w.heap.size + 1]? = some (.cells #[.int .i64 x] 3) := heap_old (by have := heap_alloc_new (w.alloc (.cells #[.slice ha hl hc, .slice sa sl sc] 25)) (.cells #[.int .i64 x] 3); rw [World.size_alloc] at this; exact this) _
  have hzk : (((w.alloc (.cells #[.slice ha hl hc, .slice sa sl sc] 25)).alloc (.cells #[.int .i64 x] 3)).alloc (.cells #[.int .i64 kd] 3)).heap[w.heap.size + 1 + 1]? = some (.cells #[.int .i64 kd] 3) := by have := heap_alloc_new ((w.alloc (.cells #[.slice ha hl hc, .slice sa sl sc] 25)).alloc (.cells #[.int .i64 x] 3)) (.cells #[.int .i64 kd] 3); rw [World.size_alloc, World.size_alloc] at this; exact this
  have hsz : (((w.alloc (.cells #[.slice ha hl hc, .slice sa sl sc] 25)).alloc (.cells #[.int .i64 x] 3)).alloc (.cells #[.int .i64 kd] 3)).heap.size = w.heap.size + 3 := by simp [World.size_alloc]
  obtain ⟨V, hV⟩ : ∃ V, V = (((w.alloc (.cells #[.slice ha hl hc, .slice sa sl sc] 25)).alloc (.cells #[.int .i64 x] 3)).alloc (.cells #[.int .i64 kd] 3)) := ⟨_, rfl⟩
  rw [← hV] at hb0 hzc hzx hzk hsz
  have HV := Lib.hid hV
  have HD := Lib.hid (dateOf_bad ha hl hc sa sl sc H S x hcal V ((hH.next hb0 (Nat.le_refl _) (Nat.le_refl _)).mono hb0.size) ((hS.next hb0 (Nat.le_refl _) (Nat.le_refl _)).mono hb0.size) (hT.next hb0) hlm slm)
  have HB0 := Lib.hid hb0
  clear hb0 hzc hzx hzk hsz hV hH hS hT hlm slm
  refine (callsIn_wide (n := 4)).1 ?_
  refine callsIn_of_wp_marks Tryd.func23 rfl trivial ?_ rfl
  simp only [Tryd.ntmps23, List.size_toArray, List.length_cons, List.length_nil, Nat.reduceAdd, Nat.reduceSub, Array.replicate_succ, Array.replicate_zero, List.push_toArray, List.append_toArray, List.nil_append, List.cons_append]
  gi_wp2
  refine wpIn_scope_straight (wpIn_seq ?_)
  gi_wp2_with fail
  rw [← HV.out]
  refine ⟨trivial, ?_⟩
  refine (callsIn_wide.2 HD.out).mono ?_
  rintro e w1 ⟨rfl, hB1⟩
  have HB1 := Lib.hid hB1
  clear hB1
  gi_wp2
  rw [Exit.noGoto_ret]
  have hbf := HB0.out.trans (HB1.out.mono HB0.out.size)
  exact ⟨_, results_tmp2 rfl _ _ _, rfl, hbf.alloc hbf.size _⟩
set_option maxRecDepth 100000 in
set_option maxHeartbeats 2000000 in
theorem next_no (ha : Option Addr) (hl hc : Nat) (sa : Option Addr) (sl sc : Nat) (H : Nat → Ho) (S : Nat → Se) (x kd : Int) (hcal : CalIs H hl S sl) (hd : ¬ (0 ≤ x ∧ x ≤ 2932896)) (w : World) (hH : HosAt w.heap.size w ha hl H) (hS : SeasAt w.heap.size w sa sl S) (hT : Tabs w) (hlm : hl ≤ maxLen) (slm : sl ≤ maxLen) :
    Calls Tryd.prog 23 #[calV ha hl hc sa sl sc, .int .i64 x, .int .i64 kd] w fun e w' => e = .returned (.tuple #[.int .i64 0, .bool false]) ∧ Below w.heap.size w w' := by
  have hb0 := (((Below.refl _ w).alloc (Nat.le_refl _) (.cells #[.slice ha hl hc, .slice sa sl sc] 25)).alloc (by simp) (.cells #[.int .i64 x] 3)).alloc (by simp; omega) (.cells #[.int .i64 kd] 3)
  have hzc : (((w.alloc (.cells #[.slice ha hl hc, .slice sa sl sc] 25)).alloc (.cells #[.int .i64 x] 3)).alloc (.cells #[.int .i64 kd] 3)).heap[w.heap.size]? = some (.cells #[.slice ha hl hc, .slice sa sl sc] 25) := heap_old (heap_old (heap_alloc_new w _) _) _
  have hzx : (((w.alloc (.cells #[.slice ha hl hc, .slice sa sl sc] 25)).alloc (.cells #[.int .i64 x] 3)).alloc (.cells #[.int .i64 kd] 3)).heap[w.heap.size + 1]? = some (.cells #[.int .i64 x] 3) := heap_old (by have := heap_alloc_new (w.alloc (.cells #[.slice ha hl hc, .slice sa sl sc] 25)) (.cells #[.int .i64 x] 3); rw [World.size_alloc] at this; exact this) _
  have hzk : (((w.alloc (.cells #[.slice ha hl hc, .slice sa sl sc] 25)).alloc (.cells #[.int .i64 x] 3)).alloc (.cells #[.int .i64 kd] 3)).heap[w.heap.size + 1 + 1]? = some (.cells #[.int .i64 kd] 3) := by have := heap_alloc_new ((w.alloc (.cells #[.slice ha hl hc, .slice sa sl sc] 25)).alloc (.cells #[.int .i64 x] 3)) (.cells #[.int .i64 kd] 3); rw [World.size_alloc, World.size_alloc] at this; exact this
  have hsz : (((w.alloc (.cells #[.slice ha hl hc, .slice sa sl sc] 25)).alloc (.cells #[.int .i64 x] 3)).alloc (.cells #[.int .i64 kd] 3)).heap.size = w.heap.size + 3 := by simp [World.size_alloc]
  obtain ⟨V, hV⟩ : ∃ V, V = (((w.alloc (.cells #[.slice ha hl hc, .slice sa sl sc] 25)).alloc (.cells #[.int .i64 x] 3)).alloc (.cells #[.int .i64 kd] 3)) := ⟨_, rfl⟩
  rw [← hV] at hb0 hzc hzx hzk hsz
  have HV := Lib.hid hV
  have HD := Lib.hid (dateOf_no ha hl hc sa sl sc H S x hcal hd V ((hH.next hb0 (Nat.le_refl _) (Nat.le_refl _)).mono hb0.size) ((hS.next hb0 (Nat.le_refl _) (Nat.le_refl _)).mono hb0.size) (hT.next hb0) hlm slm)
  have HB0 := Lib.hid hb0
  clear hb0 hzc hzx hzk hsz hV hH hS hT hlm slm
  refine (callsIn_wide (n := 4)).1 ?_
  refine callsIn_of_wp_marks Tryd.func23 rfl trivial ?_ rfl
  simp only [Tryd.ntmps23, List.size_toArray, List.length_cons, List.length_nil, Nat.reduceAdd, Nat.reduceSub, Array.replicate_succ, Array.replicate_zero, List.push_toArray, List.append_toArray, List.nil_append, List.cons_append]
  gi_wp2
  refine wpIn_scope_straight (wpIn_seq ?_)
  gi_wp2_with fail
  rw [← HV.out]
  refine ⟨trivial, ?_⟩
  refine (callsIn_wide.2 HD.out).mono ?_
  rintro e w1 ⟨rfl, hB1⟩
  have HB1 := Lib.hid hB1
  clear hB1
  gi_wp2
  rw [Exit.noGoto_ret]
  have hbf := HB0.out.trans (HB1.out.mono HB0.out.size)
  exact ⟨_, results_tmp2 rfl _ _ _, rfl, hbf.alloc hbf.size _⟩
set_option maxRecDepth 100000 in
set_option maxHeartbeats 4000000 in
theorem next_yes (ha : Option Addr) (hl hc : Nat) (sa : Option Addr) (sl sc : Nat) (H : Nat → Ho) (S : Nat → Se) (x kd : Int) (hcal : CalIs H hl S sl) (y m d : Int) (hd : IsDate x y m d) (w : World) (hH : HosAt w.heap.size w ha hl H) (hS : SeasAt w.heap.size w sa sl S) (hT : Tabs w) (hlm : hl ≤ maxLen) (slm : sl ≤ maxLen) :
    Calls Tryd.prog 23 #[calV ha hl hc sa sl sc, .int .i64 x, .int .i64 kd] w fun e w' => (∃ n is, NextIs H hl x kd n is ∧ e = .returned (.tuple #[.int .i64 n, .bool is])) ∧ Below w.heap.size w w' := by
  have hb0 := (((Below.refl _ w).alloc (Nat.le_refl _) (.cells #[.slice ha hl hc, .slice sa sl sc] 25)).alloc (by simp) (.cells #[.int .i64 x] 3)).alloc (by simp; omega) (.cells #[.int .i64 kd] 3)
  have hzc : (((w.alloc (.cells #[.slice ha hl hc, .slice sa sl sc] 25)).alloc (.cells #[.int .i64 x] 3)).alloc (.cells #[.int .i64 kd] 3)).heap[w.heap.size]? = some (.cells #[.slice ha hl hc, .slice sa sl sc] 25) := heap_old (heap_old (heap_alloc_new w _) _) _
  have hzx : (((w.alloc (.cells #[.slice ha hl hc, .slice sa sl sc] 25)).alloc (.cells #[.int .i64 x] 3)).alloc (.cells #[.int .i64 kd] 3)).heap[w.heap.size + 1]? = some (.cells #[.int .i64 x] 3) := heap_old (by have := heap_alloc_new (w.alloc (.cells #[.slice ha hl hc, .slice sa sl sc] 25)) (.cells #[.int .i64 x] 3); rw [World.size_alloc] at this; exact this) _
  have hzk : (((w.alloc (.cells #[.slice ha hl hc, .slice sa sl sc] 25)).alloc (.cells #[.int .i64 x] 3)).alloc (.cells #[.int .i64 kd] 3)).heap[w.heap.size + 1 + 1]? = some (.cells #[.int .i64 kd] 3) := by have := heap_alloc_new ((w.alloc (.cells #[.slice ha hl hc, .slice sa sl sc] 25)).alloc (.cells #[.int .i64 x] 3)) (.cells #[.int .i64 kd] 3); rw [World.size_alloc, World.size_alloc] at this; exact this
  have hsz : (((w.alloc (.cells #[.slice ha hl hc, .slice sa sl sc] 25)).alloc (.cells #[.int .i64 x] 3)).alloc (.cells #[.int .i64 kd] 3)).heap.size = w.heap.size + 3 := by simp [World.size_alloc]
  obtain ⟨V, hV⟩ : ∃ V, V = (((w.alloc (.cells #[.slice ha hl hc, .slice sa sl sc] 25)).alloc (.cells #[.int .i64 x] 3)).alloc (.cells #[.int .i64 kd] 3)) := ⟨_, rfl⟩
  rw [← hV] at hb0 hzc hzx hzk hsz
  have HV := Lib.hid hV
  have HD := Lib.hid (dateOf_yes ha hl hc sa sl sc H S x hcal y m d hd V ((hH.next hb0 (Nat.le_refl _) (Nat.le_refl _)).mono hb0.size) ((hS.next hb0 (Nat.le_refl _) (Nat.le_refl _)).mono hb0.size) (hT.next hb0) hlm slm)
  have HB0 := Lib.hid hb0
  have HZC := Lib.hid hzc
  have HZX := Lib.hid hzx
  have HZK := Lib.hid hzk
  have HSZ := Lib.hid hsz
  have HH := Lib.hid hH
  have HT := Lib.hid hT
  have HCAL := Lib.hid hcal
  have hy0 := hd.1.1
  have hy1 := hd.1.2.1
  have hxy := in_year hd.1
  rw [← hd.2] at hxy
  have hxb := day_bounds hd.1
  rw [← hd.2] at hxb
  obtain ⟨x0, x1⟩ := hxb
  obtain ⟨hxy0, hxy1⟩ := hxy
  clear hb0 hzc hzx hzk hsz hV hH hS hT hlm slm hcal hd
  refine (callsIn_wide (n := 4)).1 ?_
  refine callsIn_of_wp_marks Tryd.func23 rfl trivial ?_ rfl
  simp only [Tryd.ntmps23, List.size_toArray, List.length_cons, List.length_nil, Nat.reduceAdd, Nat.reduceSub, Array.replicate_succ, Array.replicate_zero, List.push_toArray, List.append_toArray, List.nil_append, List.cons_append]
  gi_wp2
  refine wpIn_scope_straight (wpIn_seq ?_)
  gi_wp2_with fail
  rw [← HV.out]
  refine ⟨trivial, ?_⟩
  refine (callsIn_wide.2 HD.out).mono ?_
  rintro e w1 ⟨rfl, hB1⟩
  have HB1 := Lib.hid hB1
  clear hB1
  gi_wp2
  have hw1 : w.heap.size + 3 ≤ w1.heap.size := by have := HB1.out.size; rw [HSZ.out] at this; exact this
  have hb1 := HB0.out.trans (HB1.out.mono HB0.out.size)
  have zc1 := (HB1.out.block w.heap.size (by rw [HSZ.out]; omega)).trans HZC.out
  have zx1 := (HB1.out.block (w.heap.size + 1) (by rw [HSZ.out]; omega)).trans HZX.out
  have zk1 := (HB1.out.block (w.heap.size + 1 + 1) (by rw [HSZ.out]; omega)).trans HZK.out
  obtain ⟨X, hX⟩ : ∃ X, ((w1.alloc (.cells #[.int .i64 y, .int .i64 m, .int .i64 d] 39)).alloc (.cells #[.int .i64 0] 3)).alloc (.cells #[.bool false] 4) = X := ⟨_, rfl⟩
  have xzc : X.heap[w.heap.size]? = some (.cells #[.slice ha hl hc, .slice sa sl sc] 25) := by rw [← hX]; exact heap_old (heap_old (heap_old zc1 _) _) _
  have xzx : X.heap[w.heap.size + 1]? = some (.cells #[.int .i64 x] 3) := by rw [← hX]; exact heap_old (heap_old (heap_old zx1 _) _) _
  have xzk : X.heap[w.heap.size + 1 + 1]? = some (.cells #[.int .i64 kd] 3) := by rw [← hX]; exact heap_old (heap_old (heap_old zk1 _) _) _
  have xz8 : X.heap[w1.heap.size]? = some (.cells #[.int .i64 y, .int .i64 m, .int .i64 d] 39) := by rw [← hX]; exact heap_old (heap_old (heap_alloc_new w1 _) _) _
  have xz10 : X.heap[w1.heap.size + 1]? = some (.cells #[.int .i64 0] 3) := by rw [← hX]; exact heap_old (by have := heap_alloc_new (w1.alloc (.cells #[.int .i64 y, .int .i64 m, .int .i64 d] 39)) (.cells #[.int .i64 0] 3); rw [World.size_alloc] at this; exact this) _
  have xz11 : X.heap[w1.heap.size + 1 + 1]? = some (.cells #[.bool false] 4) := by rw [← hX]; have := heap_alloc_new ((w1.alloc (.cells #[.int .i64 y, .int .i64 m, .int .i64 d] 39)).alloc (.cells #[.int .i64 0] 3)) (.cells #[.bool false] 4); rw [World.size_alloc, World.size_alloc] at this; exact this
  have xsz : X.heap.size = w1.heap.size + 3 := by rw [← hX]; simp [World.size_alloc]
  have xb : Below w.heap.size w X := by rw [← hX]; exact ((hb1.alloc hb1.size _).alloc (by have := hb1.size; simp; omega) _).alloc (by have := hb1.size; simp; omega) _
  rw [hX]
  have xc0 : X.cell? ⟨w.heap.size, 0, none⟩ = some (.slice ha hl hc) := cell_of_row _ _ 0 _ _ _ xzc
  have xc1 : X.cell? ⟨w.heap.size, 1, none⟩ = some (.slice sa sl sc) := cell_of_row _ _ 1 _ _ _ xzc
  have x80 : X.cell? ⟨w1.heap.size, 0, none⟩ = some (.int .i64 y) := cell_of_row _ _ 0 _ _ _ xz8
  have XZX := Lib.hid xzx
  have XZK := Lib.hid xzk
  have XZ10 := Lib.hid xz10
  have XZ11 := Lib.hid xz11
  have XB := Lib.hid xb
  have XSZ := Lib.hid xsz
  clear hX xzc xzx xzk xz8 xz10 xz11 xb zc1 zx1 zk1 hb1 HZC HZX HZK HB0 HD HB1 xsz
  refine wpIn_label ?_
  gi_wp2_with (refine ⟨trivial, ?_⟩; gi_at_call 48; refine (kindsFrom_in _ _ _ _ _ _ _ _ _).mono ?_; rintro e w' ⟨rfl, rfl⟩)
  have hC2 : ((X.alloc (.cells #[.slice ha hl hc, .slice sa sl sc] 25)).alloc (.cells #[.int .i64 y] 3)).heap[X.heap.size]? = some (.cells #[.slice ha hl hc, .slice sa sl sc] 25) := heap_old (heap_alloc_new X _) _
  have hY2 : ((X.alloc (.cells #[.slice ha hl hc, .slice sa sl sc] 25)).alloc (.cells #[.int .i64 y] 3)).heap[X.heap.size + 1]? = some (.cells #[.int .i64 y] 3) := by have := heap_alloc_new (X.alloc (.cells #[.slice ha hl hc, .slice sa sl sc] 25)) (.cells #[.int .i64 y] 3); rw [World.size_alloc] at this; exact this
  have hs2 : ((X.alloc (.cells #[.slice ha hl hc, .slice sa sl sc] 25)).alloc (.cells #[.int .i64 y] 3)).heap.size = X.heap.size + 2 := by simp [World.size_alloc]
  have hbx2 : Below w.heap.size w ((X.alloc (.cells #[.slice ha hl hc, .slice sa sl sc] 25)).alloc (.cells #[.int .i64 y] 3)) := (XB.out.alloc XB.out.size _).alloc (by have := XB.out.size; simp; omega) _
  have hz10 := heap_old (heap_old XZ10.out (.cells #[.slice ha hl hc, .slice sa sl sc] 25)) (.cells #[.int .i64 y] 3)
  have hz11 := heap_old (heap_old XZ11.out (.cells #[.slice ha hl hc, .slice sa sl sc] 25)) (.cells #[.int .i64 y] 3)
  have hzx2 := heap_old (heap_old XZX.out (.cells #[.slice ha hl hc, .slice sa sl sc] 25)) (.cells #[.int .i64 y] 3)
  have hzk2 := heap_old (heap_old XZK.out (.cells #[.slice ha hl hc, .slice sa sl sc] 25)) (.cells #[.int .i64 y] 3)
  obtain ⟨X2, hX2⟩ : ∃ X2, (X.alloc (.cells #[.slice ha hl hc, .slice sa sl sc] 25)).alloc (.cells #[.int .i64 y] 3) = X2 := ⟨_, rfl⟩
  rw [hX2] at hC2 hY2 hs2 hbx2 hz10 hz11 hzx2 hzk2 ⊢
  have hH2 : HosAt X2.heap.size X2 ha hl H := (HH.out.next hbx2 (Nat.le_refl _) (Nat.le_refl _)).mono hbx2.size
  have hT2 : Tabs X2 := HT.out.next hbx2
  have hbs := hbx2.size
  obtain ⟨N, hN⟩ : ∃ N : Nat, (N : Int) = 2932897 - ahead y := ⟨(2932897 - ahead y).toNat, by have := (year_days hy0 hy1).2.1; have := (year_days hy0 hy1).2.2.2; omega⟩
  have ha0 := (year_days hy0 hy1).1
  have HN := Lib.hid hN
  clear hX2 xc0 xc1 x80 XB XZ10 XZ11 XZX XZK HH
  refine wpIn_rangeFunc_ownG rfl (by omega) (gf := 63) (lb := #[.pointer (some ⟨X.heap.size + 1, 0, none⟩), .pointer (some ⟨X.heap.size, 0, none⟩)]) rfl trivial (enters_of Tryd.func63 (by kernel_rfl) rfl)
    (kin_stops (4 - 1) (by omega) X.heap.size (X.heap.size + 1) ha hl hc sa sl sc H y HCAL.out.1 HCAL.out.2.2.1 hy0 hy1 N hN X2 hC2 hY2 hH2 hT2) (fun h k => KA.trans h k) (kaB _) (Below.refl _ _) (fun _ => rfl)
    (fun pre W => (W.heap[w1.heap.size + 1]? = some (.cells #[.int .i64 0] 3) ∧ W.heap[w1.heap.size + 1 + 1]? = some (.cells #[.bool false] 4) ∧ W.heap[w.heap.size + 1]? = some (.cells #[.int .i64 x] 3) ∧ W.heap[w.heap.size + 1 + 1]? = some (.cells #[.int .i64 kd] 3) ∧ NoHit x kd pre) ∧ Below w.heap.size w W)
    (fun c pre W => (StopN x kd (w1.heap.size + 1) (w1.heap.size + 1 + 1) pre W ∧ c = .exit 0) ∧ Below w.heap.size w W)
    (OwnFrom.and (Own.from (fun s A B row hs hg hr => ⟨cells_kept hs.1 hg hr, cells_kept hs.2.1 hg hr, cells_kept hs.2.2.1 hg hr, cells_kept hs.2.2.2.1 hg hr, hs.2.2.2.2⟩) _) (ownFrom_below (Nat.le_refl _) (by omega)))
    (fun c => OwnFrom.and (Own.from (fun s A B row hs hg hr => by
      obtain ⟨⟨q, z, n, is, e1, e2, e3, e4, e5⟩, e6⟩ := hs
      exact ⟨⟨q, z, n, is, e1, e2, cells_kept e3 hg hr, cells_kept e4 hg hr, e5⟩, e6⟩) _) (ownFrom_below (Nat.le_refl _) (by omega)))
    ⟨⟨hz10, hz11, hzx2, hzk2, fun q hq => by cases hq⟩, hbx2⟩
    (fun z => { tmps := #[calV ha hl hc sa sl sc, .int .i64 x, .int .i64 kd, .pointer (some ⟨w.heap.size, 0, none⟩), .pointer (some ⟨w.heap.size + 1, 0, none⟩), .pointer (some ⟨w.heap.size + 1 + 1, 0, none⟩), .int .i64 0, .bool false, .pointer (some ⟨w1.heap.size, 0, none⟩), .int .i64 0, .pointer (some ⟨w1.heap.size + 1, 0, none⟩), .pointer (some ⟨w1.heap.size + 1 + 1, 0, none⟩), .int .i64 z.1.1, .int .i64 z.1.2,
      .tuple #[dateV y m d, .int .i64 0], .agg #[.slice ha hl hc, .slice sa sl sc], .int .i64 x, .tuple #[dateV y m d, .int .i64 0], dateV y m d, .int .i64 0, .int .i64 0, .bool false, .agg #[.slice ha hl hc, .slice sa sl sc], .pointer (some ⟨w1.heap.size, 0, none⟩), .int .i64 y, .func (.func 63) #[] #[.pointer (some ⟨X.heap.size + 1, 0, none⟩), .pointer (some ⟨X.heap.size, 0, none⟩)],
      .int .i64 z.1.1, .int .i64 z.1.2, undef, undef, undef, undef, undef, undef, undef, undef, undef, undef, undef, undef, undef, undef, undef, undef, undef], defers := [] }) ?assign ?body ?done ?stop
  case assign =>
    intro l z W K hK
    unfold encK
    gi_wp2
    exact hK
  case body =>
    rintro l pre z W ⟨⟨h10, h11, hx, hk, hall⟩, hB⟩ hlt
    obtain ⟨⟨zv, zk⟩, hz0, hz1⟩ := z
    simp only at hz0 hz1
    have c10 : W.cell? ⟨w1.heap.size + 1, 0, none⟩ = some (.int .i64 0) := cell_of_row _ _ 0 _ _ _ h10
    have c11 : W.cell? ⟨w1.heap.size + 1 + 1, 0, none⟩ = some (.bool false) := cell_of_row _ _ 0 _ _ _ h11
    have f10 := frozen_of_row W (w1.heap.size + 1) 0 _ _ h10
    have f11 := frozen_of_row W (w1.heap.size + 1 + 1) 0 _ _ h11
    have cx : W.cell? ⟨w.heap.size + 1, 0, none⟩ = some (.int .i64 x) := cell_of_row _ _ 0 _ _ _ hx
    have ck : W.cell? ⟨w.heap.size + 1 + 1, 0, none⟩ = some (.int .i64 kd) := cell_of_row _ _ 0 _ _ _ hk
    have H10 := Lib.hid h10
    have H11 := Lib.hid h11
    have HXX := Lib.hid hx
    have HKK := Lib.hid hk
    have HA := Lib.hid hall
    have HB := Lib.hid hB
    clear h10 h11 hx hk hall hB hC2 hY2 hz10 hz11 hzx2 hzk2 hbx2 hH2 hT2 hN
    by_cases hfar : x + 3700 < zv
    · gi_wp2
      exact ⟨KeepsFrom.refl _ _, ⟨⟨pre, ⟨(zv, zk), hz0, hz1⟩, 0, false, rfl, HA.out, H10.out, H11.out, .inl ⟨hfar, rfl, rfl⟩⟩, rfl⟩, HB.out⟩
    · by_cases hge : x ≤ zv
      · by_cases hkd : zk = kd
        · have g : (zk == kd) = true := by simp [hkd]
          have HKD := Lib.hid hkd
          clear hkd
          gi_wp2
          refine ⟨((KeepsOthers.setCell _ _ _).trans (KeepsOthers.setCell _ _ _)).from _, ⟨⟨pre, ⟨(zv, zk), hz0, hz1⟩, zv, true, rfl, HA.out, ?_, ?_, .inr ⟨by show zv ≤ _; omega, hge, HKD.out, rfl, rfl⟩⟩, rfl⟩, (HB.out.setCell (p := ⟨w1.heap.size + 1, 0, none⟩) (by show w.heap.size ≤ w1.heap.size + 1; omega) _).setCell (p := ⟨w1.heap.size + 1 + 1, 0, none⟩) (by show w.heap.size ≤ w1.heap.size + 1 + 1; omega) _⟩
          · exact (heap_setCell_other _ ⟨w1.heap.size + 1 + 1, 0, none⟩ (w1.heap.size + 1) _ (by simp)).trans (heap_setCell_same W (w1.heap.size + 1) 0 _ _ (.int .i64 zv) H10.out)
          · exact heap_setCell_same _ (w1.heap.size + 1 + 1) 0 _ _ (.bool true) ((heap_setCell_other W ⟨w1.heap.size + 1, 0, none⟩ (w1.heap.size + 1 + 1) _ (by simp)).trans H11.out)
        · have g : (zk == kd) = false := by simp [hkd]
          have HKD := Lib.hid hkd
          clear hkd
          gi_wp2
          exact ⟨KeepsFrom.refl _ _, KA.refl _, ⟨H10.out, H11.out, HXX.out, HKK.out, HA.out.snoc (fun h => HKD.out h.2)⟩, HB.out⟩
      · gi_wp2
        exact ⟨KeepsFrom.refl _ _, KA.refl _, ⟨H10.out, H11.out, HXX.out, HKK.out, HA.out.snoc (fun h => by have h1 := h.1; simp only at h1; omega)⟩, HB.out⟩
  case done =>
    rintro DD ys W hD rfl ⟨⟨h10, h11, hx, hk, hall⟩, hB⟩ hK
    have c10 : W.cell? ⟨w1.heap.size + 1, 0, none⟩ = some (.int .i64 0) := cell_of_row _ _ 0 _ _ _ h10
    have c11 : W.cell? ⟨w1.heap.size + 1 + 1, 0, none⟩ = some (.bool false) := cell_of_row _ _ 0 _ _ _ h11
    have hno : NextIs H hl x kd 0 false := .inr ⟨rfl, rfl, fun i hi0 hi1 hi2 => no_hit hall hxy0 (by omega) ha0 hi0 (by omega)⟩
    have HNO := Lib.hid hno
    have HB := Lib.hid hB
    have HK := Lib.hid hK
    clear h10 h11 hx hk hall hB hK hno hC2 hY2 hz10 hz11 hzx2 hzk2 hbx2 hH2 hT2 hN
    gi_wp2_with fail
    refine wpIn_wide.2 ?_
    go_quiet (fail)
    have hk2 := HK.out
    have hb2 := below_drewN HB.out nq
    change (W.drewN nq).heap[DD]? = _ at hk2
    generalize W.drewN nq = W9 at hk2 hb2 ⊢
    have HK9 := Lib.hid hk2
    have HB9 := Lib.hid hb2
    clear hk2 hb2 HK HB
    gi_wp2
    rw [Exit.noGoto_ret]
    refine ⟨by simp, .inl ⟨_, _, rfl, run_takeDeferred HK9.out, ?_⟩⟩
    exact ⟨_, results_tmp2 rfl _ _ _, ⟨_, _, HNO.out, rfl⟩, HB9.out.trans (belowK_b (w := w) (Nat.le_refl _) _ DD _ _ (by omega) HK9.out rfl rfl)⟩
  case stop =>
    rintro DD c pre W hD ⟨k, hkN, hpre⟩ ⟨⟨⟨q, z, n, is, hq, hall, h10, h11, hor⟩, rfl⟩, hB⟩ hK
    have c10 : W.cell? ⟨w1.heap.size + 1, 0, none⟩ = some (.int .i64 n) := cell_of_row _ _ 0 _ _ _ h10
    have c11 : W.cell? ⟨w1.heap.size + 1 + 1, 0, none⟩ = some (.bool is) := cell_of_row _ _ 0 _ _ _ h11
    have hres : NextIs H hl x kd n is := by
      obtain ⟨j, rfl, rfl, rfl⟩ := upto_last (hpre.symm.trans hq)
      have hv := dayK_val (H := H) (hl := hl) (s := ahead y) (i := j) (by omega)
      rw [hv] at hor
      rcases hor with ⟨a, rfl, rfl⟩ | ⟨a, b, c, rfl, rfl⟩
      · exact .inr ⟨rfl, rfl, fun i hi0 hi1 hi2 => no_hit hall hxy0 (by omega) ha0 hi0 (by simp only at a; omega)⟩
      · simp only at a b c ⊢
        exact .inl ⟨rfl, b, a, by omega, c, fun i hi0 hi1 => no_hit hall hxy0 (by omega) ha0 hi0 (by omega)⟩
    have HRES := Lib.hid hres
    have HB := Lib.hid hB
    have HK := Lib.hid hK
    clear h10 h11 hall hB hK hres hor hq hpre hC2 hY2 hz10 hz11 hzx2 hzk2 hbx2 hH2 hT2 hN
    gi_wp2_with fail
    refine wpIn_wide.2 ?_
    go_quiet (fail)
    have hk2 := HK.out
    have hb2 := below_drewN HB.out nq
    change (W.drewN nq).heap[DD]? = _ at hk2
    generalize W.drewN nq = W9 at hk2 hb2 ⊢
    have HK9 := Lib.hid hk2
    have HB9 := Lib.hid hb2
    clear hk2 hb2 HK HB
    gi_wp2
    rw [Exit.noGoto_ret]
    refine ⟨by simp, .inl ⟨_, _, rfl, run_takeDeferred HK9.out, ?_⟩⟩
    exact ⟨_, results_tmp2 rfl _ _ _, ⟨_, _, HRES.out, rfl⟩, HB9.out.trans (belowK_b (w := w) (Nat.le_refl _) _ DD _ _ (by omega) HK9.out rfl rfl)⟩
end Go.Proofs.YtgedcfgmfhlkdaaDoor
