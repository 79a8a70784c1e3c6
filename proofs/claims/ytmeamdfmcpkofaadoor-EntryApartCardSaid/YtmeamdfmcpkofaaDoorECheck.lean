/- Check. -/
import Derived.Test.YtmeamdfmcpkofaaDoorESize
import Derived.Test.YtmeamdfmcpkofaaDoorEExec
import Derived.Test.YtmeamdfmcpkofaaDoorEEq
import Derived.Test.YtmeamdfmcpkofaaDoorDLift
set_option linter.unusedVariables false
set_option linter.unusedSimpArgs false
namespace Go.Proofs.YtmeamdfmcpkofaaDoor
open Go.RowKit Go.Shelf
attribute [local go_sem] Oper.semAt_some
theorem nums_lit (g : Nat → Int) : nums .u64 9 g = #[.int .u64 (g 0), .int .u64 (g 1), .int .u64 (g 2), .int .u64 (g 3), .int .u64 (g 4), .int .u64 (g 5), .int .u64 (g 6), .int .u64 (g 7), .int .u64 (g 8)] := rfl
theorem below_drewN {n : Nat} {w W : World} (h : Below n w W) (k : Nat) : Below n w (W.drewN k) := ⟨h.os, h.tape, h.output, h.size, h.block⟩
def part9 (g : Nat → Int) (pre : List Nat) (f : Nat) : Int := if f ∈ pre then g f else 0
def hash9 (x : En) (pre : List Nat) : List Int := if 9 ∈ pre then x.hash else zeros
/-- What lies there behind some of the fields. -/
structure CkAt (w : World) (n1 : Nat) (x : En) (g : Nat → Int) (pre : List Nat) (W : World) : Prop where
  en : At 27 W w.heap.size (enV x)
  er : At 29 W (w.heap.size + 1) #[.int .i64 0]
  all : At 61 W n1 (nums .u64 9 g)
  only : At 61 W (n1 + 1) (nums .u64 9 (part9 g pre))
  h : At 25 W (n1 + 2) (nums .u8 32 (bf (hash9 x pre)))
  b : Below w.heap.size w W
theorem CkAt.grown {w : World} {n1 : Nat} {x : En} {g : Nat → Int} {pre : List Nat} {X Y : World} {row : Option Nat} (h : CkAt w n1 x g pre X) (hn : w.heap.size + 1 < n1) (hg : X.grownBy Y row) (hr : ∀ r, row = some r → n1 + 2 < r) : CkAt w n1 x g pre Y := by
  have k : ∀ {T : TypeId} {b : Nat} {cs : Array Value}, b ≤ n1 + 2 → At T X b cs → At T Y b cs := fun {T b cs} hb ha => (hg.block b ha.lt (fun e => by have := hr _ e.symm; omega)).trans ha
  exact ⟨k (by omega) h.en, k (by omega) h.er, k (by omega) h.all, k (by omega) h.only, k (by omega) h.h, h.b.trans ⟨hg.os, hg.tape, hg.output, hg.size, fun j hj => hg.block j (by have := h.b.size; omega) (fun e => by have := hr _ e.symm; omega)⟩⟩
theorem grown_of' {X Y : World} (h : Below X.heap.size X Y) : X.grownBy Y none := ⟨h.os, h.tape, h.output, h.size, fun k hk _ => h.block k hk⟩
def CkI (w : World) (n1 : Nat) (x : En) (g : Nat → Int) (k : Nat) (pre : List Nat) (W : World) : Prop := CkAt w n1 x g pre W ∧ ∀ f ∈ pre, f ≠ 9 → holdsB k f (g f) = true
def CkX (w : World) (g : Nat → Int) (k : Nat) (pre : List Nat) (W : World) : Prop := (∃ f ∈ pre, f ≠ 9 ∧ holdsB k f (g f) = false) ∧ At 29 W (w.heap.size + 1) #[.int .i64 150] ∧ Below w.heap.size w W
theorem results_er {r : Int} {b : Nat} {tmps : Array Value} {w : World} (h2 : tmps.getD 2 undef = .pointer (some ⟨b, 0, none⟩)) (hb : At 29 w b #[.int .i64 r]) : (results Tryd.f15 tmps).run Tryd.prog w = .ok (.int .i64 r) w := by
  have c0 : w.cell? ⟨b, 0, none⟩ = some (.int .i64 r) := cell_of_row _ b 0 _ _ _ hb
  simp only [Array.getD_eq_getD_getElem?] at h2
  simp [results, Tryd.results15, go_sem, h2, c0]
/-- Check's answer. -/
def CkE (x : En) (w : World) (e : Ending) (w' : World) : Prop := (((∃ k, May k x) ∧ e = .returned (.int .i64 0)) ∨ ((¬ ∃ k, May k x) ∧ e = .returned (.int .i64 150))) ∧ Below w.heap.size w w'
theorem part9_app (g : Nat → Int) (pre : List Nat) (f : Nat) : ∀ j, (if j = f then g f else part9 g pre j) = part9 g (pre ++ [f]) j := fun j => by
  unfold part9
  by_cases e : j = f
  · subst e; simp
  · rw [if_neg e]; simp [e]
theorem hash9_app (x : En) (pre : List Nat) {f : Nat} (h : f ≠ 9) : hash9 x (pre ++ [f]) = hash9 x pre := by
  unfold hash9
  simp [Ne.symm h]
theorem hash9_9 (x : En) (pre : List Nat) : hash9 x (pre ++ [9]) = x.hash := by unfold hash9; simp
theorem part9_9 (g : Nat → Int) (pre : List Nat) : ∀ j, j < 9 → part9 g pre j = part9 g (pre ++ [9]) j := fun j hj => by
  unfold part9
  simp [show j ≠ 9 by omega]
theorem bf_zeros : nums .u8 32 (fun _ => 0) = nums .u8 32 (bf zeros) := nums_congr fun j hj => by
  unfold bf zeros
  rw [List.getD_eq_getElem?_getD, List.getElem?_replicate]
  split <;> rfl
/-- The end of the fields: valid, if nothing else is there. -/
theorem may_iff {k : Nat} (hk : 1 ≤ k ∧ k < 6) {x : En} (hx : x.ok) (hxk : x.kind = (k : Int)) (hall : ∀ f ∈ layN k, f ≠ 9 → holdsB k f (num x f) = true) :
    enOf k (part9 (num x) (layN k)) (hash9 x (layN k)) = x ↔ May k x := by
  have hl := lay_nums k ⟨hk.1, by omega⟩
  have hm : ∀ f, f < 9 → (f ∈ layN k ↔ f ∈ numsL k) := fun f hf => by
    rw [hl, List.mem_append]
    constructor
    · rintro (h | h)
      · exact h
      · split at h <;> simp at h; omega
    · exact .inl
  have h9 : 9 ∈ layN k ↔ 3 ≤ k := by
    rw [hl, List.mem_append]
    constructor
    · rintro (h | h)
      · exact absurd (nums_lt h) (by omega)
      · split at h
        · assumption
        · simp at h
    · intro h; rw [if_pos h]; simp
  have hp : ∀ f, 0 ≤ part9 (num x) (layN k) f ∧ part9 (num x) (layN k) f < 18446744073709551616 := fun f => by
    unfold part9
    split
    · exact num_bd hx f
    · omega
  constructor
  · intro e
    refine ⟨⟨hk.1, by omega⟩, hxk, fun f hf => hall f ((hm f (nums_lt hf)).2 hf) (by have := nums_lt hf; omega), fun f hf hn => ?_, fun h3 => ?_⟩
    · have h7 : part9 (num x) (layN k) 7 < 4294967296 := by
        unfold part9
        split
        · exact hx.count.2
        · omega
      have := num_enOf (k := k) (h := hash9 x (layN k)) hp h7 f hf
      rw [e] at this
      rw [this]
      unfold part9
      rw [if_neg (fun q => hn ((hm f hf).1 q))]
    · have := congrArg En.hash e
      rw [← this]
      show hash9 x (layN k) = zeros
      unfold hash9
      rw [if_neg (fun q => by have := h9.1 q; omega)]
  · intro m
    have hh : hash9 x (layN k) = x.hash := by
      unfold hash9
      split
      · rfl
      · rename_i h; rw [m.hash (by have := mt h9.2 h; omega)]
    rw [hh]
    refine enOf_num hx hxk fun f hf => ?_
    unfold part9
    split
    · rfl
    · rename_i h; rw [m.rest f hf (fun q => h ((hm f hf).2 q))]
theorem may_kind {j : Nat} {x : En} {k : Nat} (m : May j x) (h : x.kind = (k : Int)) : j = k := by have := m.kind; omega
set_option maxRecDepth 100000 in
set_option maxHeartbeats 4000000 in
theorem check_kind (k : Nat) (hk : 1 ≤ k ∧ k < 6) (x : En) (hx : x.ok) (hxk : x.kind = (k : Int)) (w : World) (hT : TabE w) : Calls Tryd.prog 15 #[.agg (enV x)] w (CkE x w) := by
  obtain ⟨g0, _⟩ := enV_get x
  rw [hxk] at g0
  have hne := words_ne hk
  have hnm := name_nat hk.2
  obtain ⟨ws, hws⟩ : ∃ ws, wordS k = ws := ⟨_, rfl⟩
  rw [hws] at hne hnm
  have n2 : ws.toList ≠ [] := fun e => hne (by
    rw [ByteArray.toList_eq] at e
    cases ws; simp_all)
  have n3 : ws.toList.isEmpty = false := by cases h : ws.toList with
    | nil => exact absurd h n2
    | cons => rfl
  have hz1 := (zero_of_info zero_hash).1
  have HNM := Lib.hid (fun W (h : TabE W) => hnm ▸ name_any (k : Int) (by unfold R64; omega) W h)
  obtain ⟨g, hg⟩ : ∃ g, num x = g := ⟨_, rfl⟩
  have HNO := Lib.hid (fun W => by have h := numbersOf_any x hx W; rw [hg, nums_lit] at h; exact h)
  have HG := Lib.hid hg
  clear hg
  have HT := Lib.hid hT
  have HK := Lib.hid hk
  have HXK := Lib.hid hxk
  have HX0 := Lib.hid hx
  have HB1 := Lib.hid (show Below w.heap.size w ((w.alloc (.cells (enV x) 27)).alloc (.cells #[.int .i64 0] 29)) from ((Below.refl _ w).alloc (Nat.le_refl _) _).alloc (by simp) _)
  clear hT hk hxk hx hne hnm hws
  refine (callsIn_wide (n := 6)).1 ?_
  refine callsIn_of_wp_marks Tryd.func15 rfl trivial ?_ rfl
  simp only [Tryd.ntmps15, List.size_toArray, List.length_cons, List.length_nil, Nat.reduceAdd, Nat.reduceSub, Array.replicate_succ, Array.replicate_zero, List.push_toArray, List.append_toArray, List.nil_append, List.cons_append]
  gi_wp2_with fail
  refine ⟨trivial, ?_⟩
  refine (callsIn_wide.2 (HNM.out _ (HT.out.next HB1.out))).mono ?_
  rintro e W ⟨rfl, rfl⟩
  clear HNM
  gi_wp2_with (first | (refine wpListIn_val (fun _ => trivial) rfl (by intro c hc; cases hc) (exec_load rfl rfl (load_enV (at_first _ _ _))) ?_) | fail)
  refine ⟨trivial, ?_⟩
  refine (callsIn_wide.2 (HNO.out _)).mono ?_
  rintro e w1 ⟨rfl, hB1⟩
  clear HNO
  have hlt1 : w.heap.size + 1 < w1.heap.size := by have := hB1.size; simp at this; omega
  have hA1 : At 27 w1 w.heap.size (enV x) := (hB1.block _ (by simp; omega)).trans (at_first _ _ _)
  have hA2 : At 29 w1 (w.heap.size + 1) #[.int .i64 0] := (hB1.block _ (by simp)).trans (at_second _ _ _)
  have hB2 : Below w.heap.size w w1 := HB1.out.trans (hB1.mono (by simp; omega))
  obtain ⟨V, hV⟩ : ∃ V, V = ((w1.alloc (.cells (nums .u64 9 g) 61)).alloc (.cells (nums .u64 9 fun _ => 0) 61)).alloc (.cells (nums .u8 32 fun _ => 0) 25) := ⟨_, rfl⟩
  have sV : V.heap.size = w1.heap.size + 3 := by rw [hV]; simp
  have hBV : Below w1.heap.size w1 V := by rw [hV]; exact (((Below.refl _ _).alloc (Nat.le_refl _) _).alloc (by simp) _).alloc (by simp; omega) _
  have hCK : CkAt w w1.heap.size x g [] V := ⟨(hBV.block _ (by omega)).trans hA1, (hBV.block _ (by omega)).trans hA2, by rw [hV]; exact (At.new _ _ _).alloc _ |>.alloc _, by rw [hV]; exact (at_second _ _ _).alloc _, by rw [hV]; show At _ _ _ (nums .u8 32 (bf zeros)); rw [← bf_zeros]; exact at_third _ _ _ _, hB2.trans (hBV.mono (by omega))⟩
  have cV := (hCK.en.cell 0).trans g0
  simp only [nums_lit] at hV
  have HCK := Lib.hid hCK
  have HLT1 := Lib.hid hlt1
  have HSV := Lib.hid sV
  obtain ⟨X, hX⟩ : ∃ X, X = V.alloc (.cells #[.int .i64 (k : Int)] 3) := ⟨_, rfl⟩
  have hap := fieldsOf_in (6 - 1) (k : Int) V
  rw [sV] at hap
  have HAP := Lib.hid hap
  have HXX := Lib.hid hX
  have hCKX : CkAt w w1.heap.size x g [] X := by rw [hX]; exact hCK.grown hlt1 (World.grownBy_alloc V _ none) (fun r e => by cases e)
  have sX : X.heap.size = w1.heap.size + 4 := by rw [hX, World.size_alloc, sV]
  have yk : X.heap[w1.heap.size + 3]? = some (.cells #[.int .i64 (k : Int)] 3 (0, 0)) := by rw [hX]; have := World.alloc_heap_new V (.cells #[.int .i64 (k : Int)] 3); rwa [sV] at this
  have HX := Lib.hid (And.intro sX (And.intro hCKX yk))
  clear hB1 hA1 hA2 hB2 hBV hCK sV hX hap hCKX sX yk hlt1
  simp only []
  gi_step
  gi_step
  gi_step
  gi_step
  gi_step
  gi_step
  gi_step
  gi_step
  gi_step
  gi_step
  gi_step
  gi_step
  gi_step
  gi_step
  gi_step
  gi_step
  gi_step
  gi_step
  gi_step
  gi_step
  gi_step
  gi_step
  rw [← hV]
  clear hV
  gi_wp2_with fail
  refine ⟨trivial, ?_⟩
  refine HAP.out.mono ?_
  rintro e w' ⟨rfl, hw⟩
  obtain rfl : X = w' := HXX.out.trans hw.symm
  clear hw HXX HAP cV
  gi_wp2_with fail
  obtain ⟨sX, hCKX, yk⟩ := HX.out
  have hlt1 := HLT1.out
  refine wpIn_rangeFunc_box (gf := 49) (lb := #[.pointer (some ⟨w1.heap.size + 3, 0, none⟩)]) rfl (enters_of Tryd.func49 (by kernel_rfl) rfl)
    (layN k) (encF k) (w1.heap.size + 3) (by omega) (fun j => j = w.heap.size + 1 ∨ j = w1.heap.size + 1 ∨ j = w1.heap.size + 2)
    (fields_seq (6 - 1) (by omega) (w1.heap.size + 3) k HK.out.2 _ w HT.out (fun j hj => ⟨by omega, by omega⟩) X hCKX.b yk) (fun _ => rfl) (fun j hj => by omega)
    (CkI w w1.heap.size x g k) (CkX w g k)
    (fun pre X' Y row hs' hg hr => ⟨hs'.1.grown hlt1 hg (fun r e => by have := hr r e; omega), hs'.2⟩)
    (fun pre X' Y row hs' hg hr => ⟨hs'.1, (hg.block _ hs'.2.1.lt (fun e => by have := hr _ e.symm; omega)).trans hs'.2.1, hs'.2.2.trans ⟨hg.os, hg.tape, hg.output, hg.size, fun j hj => hg.block j (by have := hs'.2.2.size; omega) (fun e => by have := hr _ e.symm; omega)⟩⟩)
    ⟨hCKX, fun f hf => by cases hf⟩
    (fun pre f a₁ W' => ∃ B, a₁ = { tmps := #[.agg (enV x), .pointer (some ⟨w.heap.size, 0, none⟩), .pointer (some ⟨w.heap.size + 1, 0, none⟩), .pointer (some ⟨w1.heap.size, 0, none⟩), .pointer (some ⟨w1.heap.size + 1, 0, none⟩), .pointer (some ⟨w1.heap.size + 1 + 1, 0, none⟩), .pointer (some ⟨B, 0, none⟩), .pointer (some ⟨w.heap.size, 0, none⟩), .int .i64 (k : Int), .string ws, .bool false, .agg (enV x), .agg #[.int .u64 (g 0), .int .u64 (g 1), .int .u64 (g 2), .int .u64 (g 3), .int .u64 (g 4), .int .u64 (g 5), .int .u64 (g 6), .int .u64 (g 7), .int .u64 (g 8)], .pointer (some ⟨w.heap.size, 0, none⟩), .int .i64 (k : Int), .func (.func 49) #[] #[.pointer (some ⟨w1.heap.size + 3, 0, none⟩)], .agg (fdV k f), undef, undef, undef, undef, undef, undef, undef, undef, undef, undef, undef, undef, undef, undef, undef, undef, undef, undef, undef, undef, undef, undef, undef, undef, undef, undef], defers := [] } ∧ X.heap.size + 2 ≤ B ∧ W'.heap[B]? = some (.cells (fdV k f) 66 (0, 0)))
    (fun pre f a₁ X' Y row hs hg hr => by
      obtain ⟨B, e1, e2, e3⟩ := hs
      exact ⟨B, e1, e2, (hg.block _ (Array.getElem?_eq_some_iff.1 e3).1 (fun e => by have := hr _ e.symm; omega)).trans e3⟩)
    ?assign ?body ?done ?stop
  case assign =>
    intro l pre f W K hsz hpre hI hK
    have HK2 := Lib.hid hK
    clear hK
    unfold encF fdV
    gi_wp2
    exact HK2.out _ _ ((Only.refl _ _ _).alloc hsz _) ⟨hI.1.grown hlt1 (World.grownBy_alloc W _ none) (fun r e => by cases e), hI.2⟩ ⟨W.heap.size, rfl, hsz, World.alloc_heap_new W _⟩
  case body =>
    rintro l pre f a₁ W hsz hpre ⟨hC, hall⟩ ⟨B, rfl, hB, hBc⟩
    have hf : f ∈ layN k := hpre.subset (by simp)
    obtain ⟨j, hj, hjf⟩ := List.getElem_of_mem hf
    have hf10 : f < 10 := by
      have := lay_lt HK.out.2 hj
      rw [← hjf]
      simpa [List.getD, hj] using this
    unfold fdV at hBc
    have c0 : W.cell? ⟨B, 0, none⟩ = some (.int .i64 (f : Int)) := cell_of_row W B 0 _ _ _ hBc
    have c1 : W.cell? ⟨B, 1, none⟩ = some (.int .i64 (sizeN f : Int)) := cell_of_row W B 1 _ _ _ hBc
    have c2 : W.cell? ⟨B, 2, none⟩ = some (.int .u64 (mostN f)) := cell_of_row W B 2 _ _ _ hBc
    have c3 : W.cell? ⟨B, 3, none⟩ = some (.bool (signB k f)) := cell_of_row W B 3 _ _ _ hBc
    have HC := Lib.hid hC
    have HALL := Lib.hid hall
    have HBL := Lib.hid (show B < W.heap.size from (Array.getElem?_eq_some_iff.1 hBc).1)
    have HSZ := Lib.hid (And.intro hsz (And.intro hB sX))
    clear hC hall hBc hsz hB hf hj hjf hpre yk hCKX sX
    by_cases hf9 : f = 9
    · subst hf9
      replace c0 : W.cell? ⟨B, 0, none⟩ = some (.int .i64 9) := c0
      clear c1 c2 c3 hf10
      have HP := Lib.hid (show Only (X.heap.size + 2) (fun j => j = w.heap.size + 1 ∨ j = w1.heap.size + 1 ∨ j = w1.heap.size + 2) W (W.setRow (w1.heap.size + 1 + 1) (nums .u8 32 (bf x.hash))) ∧ CkI w w1.heap.size x g k (pre ++ [9]) (W.setRow (w1.heap.size + 1 + 1) (nums .u8 32 (bf x.hash))) from by
        have h := HC.out
        refine ⟨⟨by rw [setRow_size]; exact Nat.le_refl _, fun j hj hs => setRow_other W (w1.heap.size + 1 + 1) j _ (by omega)⟩, ⟨h.en.rowOther _ (by omega), h.er.rowOther _ (by omega), h.all.rowOther _ (by omega), ?_, ?_, below_row h.b (by omega) _⟩, ?_⟩
        · exact (h.only.rowOther _ (by omega)).like (part9_9 g pre)
        · rw [hash9_9]; exact h.h.row
        · intro f hf hne
          rcases List.mem_append.1 hf with q | q
          · exact HALL.out f q hne
          · exact absurd (List.mem_singleton.1 q) hne)
      gi_wp2_with (first | (refine wpListIn_val (fun _ => trivial) rfl (by intro c hc; cases hc) (exec_load rfl rfl (load_hash10 HC.out.en)) ?_) | (refine wpListIn_skip (fun _ => trivial) rfl (by intro c hc; cases hc) (exec_store_hash rfl rfl rfl HC.out.h (nums_size _ _ _)) ?_) | fail)
      exact HP.out
    · have hf8 : f < 9 := by omega
      have g9 : ((f : Int) == 9) = false := by simp; omega
      have f0 : (0 : Int) ≤ (f : Int) := by omega
      have f9 : (f : Int) < 9 := by omega
      have d0 := HC.out.all.num f hf8
      have hgb : 0 ≤ g f ∧ g f < 18446744073709551616 := by rw [← HG.out]; exact num_bd HX0.out f
      have HH := Lib.hid (holds_any k f (g f) hgb W.drew)
      have HFD : Hid (fdV k f = #[.int .i64 (f : Int), .int .i64 (sizeN f : Int), .int .u64 (mostN f), .bool (signB k f)]) := Lib.hid rfl
      have q1 : (fun Z : World => Z.cell? ⟨B, 0, none⟩ = some (.int .i64 (f : Int)) ∧ Z.cell? ⟨B, 1, none⟩ = some (.int .i64 (sizeN f : Int)) ∧ Z.cell? ⟨B, 2, none⟩ = some (.int .u64 (mostN f)) ∧ Z.cell? ⟨B, 3, none⟩ = some (.bool (signB k f)) ∧ Z.cell? ⟨w1.heap.size, f, none⟩ = some (.int .u64 (g f))) W.drew := ⟨c0, c1, c2, c3, d0⟩
      have HLW := Lib.hid (show w1.heap.size < W.heap.size from HC.out.all.lt)
      clear c1 c2 c3 hgb hf9
      gi_wp2_with fail
      have HS2 := Lib.hid (show ∀ Z, Below W.heap.size W.drew Z → (fun Z : World => Z.cell? ⟨B, 0, none⟩ = some (.int .i64 (f : Int)) ∧ Z.cell? ⟨B, 1, none⟩ = some (.int .i64 (sizeN f : Int)) ∧ Z.cell? ⟨B, 2, none⟩ = some (.int .u64 (mostN f)) ∧ Z.cell? ⟨B, 3, none⟩ = some (.bool (signB k f)) ∧ Z.cell? ⟨w1.heap.size, f, none⟩ = some (.int .u64 (g f))) Z from fun Z hZ => ⟨(hZ.cell (p := ⟨B, 0, none⟩) (show B < W.heap.size from HBL.out)).trans q1.1, (hZ.cell (p := ⟨B, 1, none⟩) (show B < W.heap.size from HBL.out)).trans q1.2.1, (hZ.cell (p := ⟨B, 2, none⟩) (show B < W.heap.size from HBL.out)).trans q1.2.2.1, (hZ.cell (p := ⟨B, 3, none⟩) (show B < W.heap.size from HBL.out)).trans q1.2.2.2.1, (hZ.cell (p := ⟨w1.heap.size, f, none⟩) (show w1.heap.size < W.heap.size from HLW.out)).trans q1.2.2.2.2⟩)
      refine regionLIn (fun Z : World => Z.cell? ⟨B, 0, none⟩ = some (.int .i64 (f : Int)) ∧ Z.cell? ⟨B, 1, none⟩ = some (.int .i64 (sizeN f : Int)) ∧ Z.cell? ⟨B, 2, none⟩ = some (.int .u64 (mostN f)) ∧ Z.cell? ⟨B, 3, none⟩ = some (.bool (signB k f)) ∧ Z.cell? ⟨w1.heap.size, f, none⟩ = some (.int .u64 (g f))) 6 (by kernel_rfl) (by kernel_rfl) ?_
      refine takeL (i := 0) (oi := { dst := some 22, op := Go.Op.load 66 (Go.Operand.tmp 6), type := 66, pos := "entry.go:87", after := #[], guard := none }) (v := .agg (fdV k f)) [6, 5] rfl (by kernel_rfl) (by kernel_rfl) (by kernel_rfl) (by kernel_rfl) (fun _ _ _ h => only_panic h) rfl ?_ q1 ?_
      · intro Z hZ; obtain ⟨z0, z1, z2, z3, z4⟩ := hZ; rw [HFD.out]; go_simp
      simp only [Act.put, List.setIfInBounds_toArray, List.set_cons_zero, List.set_cons_succ]
      refine takeL (i := 1) (oi := { dst := some 23, op := Go.Op.fieldAddr 66 (Go.Operand.tmp 6) 0, type := 0, pos := "entry.go:87", after := #[], guard := none }) (v := .pointer (some ⟨B, 0, none⟩)) [6, 5, 4, 3, 2] rfl (by kernel_rfl) (by kernel_rfl) (by kernel_rfl) (by kernel_rfl) (fun _ _ _ h => only_panic h) rfl ?_ q1 ?_
      · intro Z hZ; go_simp
      simp only [Act.put, List.setIfInBounds_toArray, List.set_cons_zero, List.set_cons_succ]
      refine takeL (i := 2) (oi := { dst := some 24, op := Go.Op.load 3 (Go.Operand.tmp 23), type := 3, pos := "entry.go:87", after := #[{ on := 1, ground := Go.Ground.data }], guard := none }) (v := .int .i64 (f : Int)) [6, 5, 4, 3] rfl (by kernel_rfl) (by kernel_rfl) (by kernel_rfl) (by kernel_rfl) (fun _ _ _ h => only_panic h) rfl ?_ q1 ?_
      · intro Z hZ; obtain ⟨z0, z1, z2, z3, z4⟩ := hZ; go_simp
      simp only [Act.put, List.setIfInBounds_toArray, List.set_cons_zero, List.set_cons_succ]
      refine takeL (i := 3) (oi := { dst := some 25, op := Go.Op.indexAddr 61 (Go.Operand.tmp 3) (Go.Operand.tmp 24), type := 0, pos := "entry.go:87", after := #[{ on := 2, ground := Go.Ground.data }], guard := none }) (v := .pointer (some ⟨w1.heap.size, f, none⟩)) [6, 5, 4] rfl (by kernel_rfl) (by kernel_rfl) (by kernel_rfl) (by kernel_rfl) (fun _ _ _ h => only_panic h) rfl ?_ q1 ?_
      · intro Z hZ; go_simp
      simp only [Act.put, List.setIfInBounds_toArray, List.set_cons_zero, List.set_cons_succ]
      refine takeL (i := 4) (oi := { dst := some 26, op := Go.Op.load 23 (Go.Operand.tmp 25), type := 23, pos := "entry.go:87", after := #[{ on := 3, ground := Go.Ground.data }], guard := none }) (v := .int .u64 (g f)) [6, 5] rfl (by kernel_rfl) (by kernel_rfl) (by kernel_rfl) (by kernel_rfl) (fun _ _ _ h => only_panic h) rfl ?_ q1 ?_
      · intro Z hZ; obtain ⟨z0, z1, z2, z3, z4⟩ := hZ; go_simp
      simp only [Act.put, List.setIfInBounds_toArray, List.set_cons_zero, List.set_cons_succ]
      refine oneL (i := 5) (o := { dst := some 27, op := Go.Op.call { callee := Go.Callee.value (Go.Operand.func 32), args := #[Go.Operand.tmp 22, Go.Operand.tmp 26], argTypes := #[66, 23] }, type := 4, pos := "entry.go:87", after := #[{ on := 0, ground := Go.Ground.data }, { on := 4, ground := Go.Ground.data }], guard := none }) rfl (by kernel_rfl) rfl ?_
      refine wp_by_call (f := 32) (args := #[.agg (fdV k f), .int .u64 (g f)]) (by go_simp) (HH.out.mono ?_)
      rintro e Z ⟨rfl, hB2⟩
      have qZ := HS2.out Z hB2
      refine ⟨_, rfl, (fun _ => qZ), ?_⟩
      simp only [Act.put, List.setIfInBounds_toArray, List.set_cons_zero, List.set_cons_succ]
      refine oneL (i := 6) (o := { dst := some 28, op := Go.Op.unOp Go.UnOp.not 4 (Go.Operand.tmp 27), type := 4, pos := "entry.go:87", after := #[{ on := 5, ground := Go.Ground.data }], guard := none }) rfl (by kernel_rfl) rfl ?_
      refine wp_by_run (w' := Z) (v := .bool (!holdsB k f (g f))) (by go_simp) ⟨fun h => absurd rfl h, ?_⟩
      simp only [Act.put, List.setIfInBounds_toArray, List.set_cons_zero, List.set_cons_succ]
      refine doneL (by kernel_rfl) (⟨rfl, ?_⟩) _
      have q2 := HS2.out Z hB2
      have HB2 := Lib.hid hB2
      clear hB2 q1
      by_cases hh : holdsB k f (g f) = true
      · rw [hh]
        have HZ := Lib.hid (show CkAt w w1.heap.size x g pre Z from HC.out.grown HLT1.out (grown_of' ((below_drewN (Below.refl W.heap.size W) 1).trans HB2.out)) (fun r e => by cases e))
        have q3 : (fun Z : World => Z.cell? ⟨B, 0, none⟩ = some (.int .i64 (f : Int)) ∧ Z.cell? ⟨w1.heap.size, f, none⟩ = some (.int .u64 (g f))) Z.drew := ⟨q2.1, q2.2.2.2.2⟩
        have k0 : Z.drew.cell? ⟨w1.heap.size + 1, f, none⟩ = some (.int .u64 (part9 g pre f)) := HZ.out.only.num f hf8
        have kf : Z.drew.frozen? ⟨w1.heap.size + 1, f, none⟩ = false := HZ.out.only.free f
        have HP := Lib.hid (show Only (X.heap.size + 2) (fun j => j = w.heap.size + 1 ∨ j = w1.heap.size + 1 ∨ j = w1.heap.size + 2) W (Z.drew.setCell ⟨w1.heap.size + 1, f, none⟩ (.int .u64 (g f))) ∧ CkI w w1.heap.size x g k (pre ++ [f]) (Z.drew.setCell ⟨w1.heap.size + 1, f, none⟩ (.int .u64 (g f))) from by
          have h := HZ.out
          have hne : ∀ b, b ≠ w1.heap.size + 1 → (Z.drew.setCell ⟨w1.heap.size + 1, f, none⟩ (.int .u64 (g f))).heap[b]? = Z.heap[b]? := fun b hb => heap_setCell_other Z.drew ⟨w1.heap.size + 1, f, none⟩ b _ hb
          have hs := HSZ.out
          have hlt := HLT1.out
          refine ⟨⟨by simpa using HB2.out.size, fun j hj hs' => (hne j (by have h' : ¬ (j = w.heap.size + 1 ∨ j = w1.heap.size + 1 ∨ j = w1.heap.size + 2) := hs'; omega)).trans (HB2.out.block j (show j < W.heap.size by omega))⟩, ⟨(hne _ (by omega)).trans h.en, (hne _ (by omega)).trans h.er, (hne _ (by omega)).trans h.all, ?_, ?_, ?_⟩, ?_⟩
          · exact (At.put (W := Z.drew) h.only f (g f) hf8).like (fun j _ => part9_app g pre f j)
          · rw [hash9_app x pre (by omega)]; exact (hne _ (by omega)).trans h.h
          · exact (below_drewN h.b 1).setCell (p := ⟨w1.heap.size + 1, f, none⟩) (by show w.heap.size ≤ w1.heap.size + 1; omega) _
          · intro f' hf' hne'
            rcases List.mem_append.1 hf' with q | q
            · exact HALL.out f' q hne'
            · rw [List.mem_singleton.1 q]; exact hh)
        have Q3 := Lib.hid q3
        have K0 := Lib.hid k0
        have KF := Lib.hid kf
        clear q2 hh q3 k0 kf c0 d0
        simp only [Bool.not_true]
        gi_wp2_with fail
        have q3 := Q3.out
        have k0 := K0.out
        have kf := KF.out
        refine regionLIn (fun Z : World => Z.cell? ⟨B, 0, none⟩ = some (.int .i64 (f : Int)) ∧ Z.cell? ⟨w1.heap.size, f, none⟩ = some (.int .u64 (g f))) 7 (by kernel_rfl) (by kernel_rfl) ?_
        refine takeL (i := 0) (oi := { dst := some 29, op := Go.Op.fieldAddr 66 (Go.Operand.tmp 6) 0, type := 0, pos := "entry.go:90", after := #[], guard := none }) (v := .pointer (some ⟨B, 0, none⟩)) [7, 6, 1] rfl (by kernel_rfl) (by kernel_rfl) (by kernel_rfl) (by kernel_rfl) (fun _ _ _ h => only_panic h) rfl ?_ q3 ?_
        · intro Z hZ; go_simp
        simp only [Act.put, List.setIfInBounds_toArray, List.set_cons_zero, List.set_cons_succ]
        refine takeL (i := 1) (oi := { dst := some 30, op := Go.Op.load 3 (Go.Operand.tmp 29), type := 3, pos := "entry.go:90", after := #[{ on := 0, ground := Go.Ground.data }], guard := none }) (v := .int .i64 (f : Int)) [7, 6] rfl (by kernel_rfl) (by kernel_rfl) (by kernel_rfl) (by kernel_rfl) (fun _ _ _ h => only_panic h) rfl ?_ q3 ?_
        · intro Z hZ; obtain ⟨z0, z1⟩ := hZ; go_simp
        simp only [Act.put, List.setIfInBounds_toArray, List.set_cons_zero, List.set_cons_succ]
        refine takeL (i := 2) (oi := { dst := some 31, op := Go.Op.fieldAddr 66 (Go.Operand.tmp 6) 0, type := 0, pos := "entry.go:90", after := #[], guard := none }) (v := .pointer (some ⟨B, 0, none⟩)) [7, 6, 5, 4, 3] rfl (by kernel_rfl) (by kernel_rfl) (by kernel_rfl) (by kernel_rfl) (fun _ _ _ h => only_panic h) rfl ?_ q3 ?_
        · intro Z hZ; go_simp
        simp only [Act.put, List.setIfInBounds_toArray, List.set_cons_zero, List.set_cons_succ]
        refine takeL (i := 3) (oi := { dst := some 32, op := Go.Op.load 3 (Go.Operand.tmp 31), type := 3, pos := "entry.go:90", after := #[{ on := 2, ground := Go.Ground.data }], guard := none }) (v := .int .i64 (f : Int)) [7, 6, 5, 4] rfl (by kernel_rfl) (by kernel_rfl) (by kernel_rfl) (by kernel_rfl) (fun _ _ _ h => only_panic h) rfl ?_ q3 ?_
        · intro Z hZ; obtain ⟨z0, z1⟩ := hZ; go_simp
        simp only [Act.put, List.setIfInBounds_toArray, List.set_cons_zero, List.set_cons_succ]
        refine takeL (i := 4) (oi := { dst := some 33, op := Go.Op.indexAddr 61 (Go.Operand.tmp 3) (Go.Operand.tmp 32), type := 0, pos := "entry.go:90", after := #[{ on := 3, ground := Go.Ground.data }], guard := none }) (v := .pointer (some ⟨w1.heap.size, f, none⟩)) [7, 6, 5] rfl (by kernel_rfl) (by kernel_rfl) (by kernel_rfl) (by kernel_rfl) (fun _ _ _ h => only_panic h) rfl ?_ q3 ?_
        · intro Z hZ; go_simp
        simp only [Act.put, List.setIfInBounds_toArray, List.set_cons_zero, List.set_cons_succ]
        refine takeL (i := 5) (oi := { dst := some 34, op := Go.Op.load 23 (Go.Operand.tmp 33), type := 23, pos := "entry.go:90", after := #[{ on := 4, ground := Go.Ground.data }], guard := none }) (v := .int .u64 (g f)) [7, 6] rfl (by kernel_rfl) (by kernel_rfl) (by kernel_rfl) (by kernel_rfl) (fun _ _ _ h => only_panic h) rfl ?_ q3 ?_
        · intro Z hZ; obtain ⟨z0, z1⟩ := hZ; go_simp
        simp only [Act.put, List.setIfInBounds_toArray, List.set_cons_zero, List.set_cons_succ]
        refine oneL (i := 6) (o := { dst := some 35, op := Go.Op.indexAddr 61 (Go.Operand.tmp 4) (Go.Operand.tmp 30), type := 0, pos := "entry.go:90", after := #[{ on := 1, ground := Go.Ground.data }, { on := 0, ground := Go.Ground.phase }, { on := 1, ground := Go.Ground.phase }, { on := 2, ground := Go.Ground.phase }, { on := 3, ground := Go.Ground.phase }, { on := 4, ground := Go.Ground.phase }, { on := 5, ground := Go.Ground.phase }], guard := none }) rfl (by kernel_rfl) rfl ?_
        refine wp_by_run (w' := Z.drew) (v := .pointer (some ⟨w1.heap.size + 1, f, none⟩)) (by go_simp) ⟨fun _ => q3, ?_⟩
        simp only [Act.put, List.setIfInBounds_toArray, List.set_cons_zero, List.set_cons_succ]
        refine oneL (i := 7) (o := { dst := none, op := Go.Op.store 23 (Go.Operand.tmp 35) (Go.Operand.tmp 34), type := 0, pos := "entry.go:90", after := #[{ on := 6, ground := Go.Ground.data }, { on := 5, ground := Go.Ground.data }, { on := 0, ground := Go.Ground.phase }, { on := 1, ground := Go.Ground.phase }, { on := 2, ground := Go.Ground.phase }, { on := 3, ground := Go.Ground.phase }, { on := 4, ground := Go.Ground.phase }, { on := 5, ground := Go.Ground.phase }], guard := none }) rfl (by kernel_rfl) rfl ?_
        refine wp_by_skip (w' := Z.drew.setCell ⟨w1.heap.size + 1, f, none⟩ (.int .u64 (g f))) (exec_store rfl rfl rfl k0 kf rfl (by kernel_rfl)) ⟨fun h => absurd rfl h, ?_⟩
        simp only [Act.put, List.setIfInBounds_toArray, List.set_cons_zero, List.set_cons_succ]
        refine doneL (by kernel_rfl) (⟨rfl, ?_⟩) _
        exact HP.out
      · have hh' : holdsB k f (g f) = false := by simpa using hh
        rw [hh']
        have HZ := Lib.hid (show CkAt w w1.heap.size x g pre Z from HC.out.grown HLT1.out (grown_of' ((below_drewN (Below.refl W.heap.size W) 1).trans HB2.out)) (fun r e => by cases e))
        have k0 : Z.cell? ⟨w.heap.size + 1, 0, none⟩ = some (.int .i64 0) := HZ.out.er.cell 0
        have kf : Z.frozen? ⟨w.heap.size + 1, 0, none⟩ = false := HZ.out.er.free 0
        have HP := Lib.hid (show Only (X.heap.size + 2) (fun j => j = w.heap.size + 1 ∨ j = w1.heap.size + 1 ∨ j = w1.heap.size + 2) W (Z.setCell ⟨w.heap.size + 1, 0, none⟩ (.int .i64 150)) ∧ CkX w g k (pre ++ [f]) (Z.setCell ⟨w.heap.size + 1, 0, none⟩ (.int .i64 150)) from by
          have h := HZ.out
          have hs := HSZ.out
          refine ⟨⟨by simpa using HB2.out.size, fun j hj hs' => (heap_setCell_other Z ⟨w.heap.size + 1, 0, none⟩ j _ (by have h' : ¬ (j = w.heap.size + 1 ∨ j = w1.heap.size + 1 ∨ j = w1.heap.size + 2) := hs'; show j ≠ w.heap.size + 1; omega)).trans (HB2.out.block j (show j < W.heap.size by omega))⟩, ⟨f, by simp, by omega, hh'⟩, ?_, h.b.setCell (p := ⟨w.heap.size + 1, 0, none⟩) (by show w.heap.size ≤ w.heap.size + 1; omega) _⟩
          exact h.er.set 0 (.int .i64 150))
        clear q2 hh c0 d0
        simp only [Bool.not_false]
        gi_wp2
        exact HP.out
  case done =>
    rintro D W hge ⟨hC, hall⟩ hD
    rw [← HG.out] at hC hall
    obtain ⟨c, hc⟩ : ∃ c, enOf k (part9 (num x) (layN k)) (hash9 x (layN k)) = c := ⟨_, rfl⟩
    have hl32 : (hash9 x (layN k)).length = 32 := by unfold hash9; split; exact HX0.out.len; exact zeros_len
    have hoct : Oct (hash9 x (layN k)) := by unfold hash9; split; exact HX0.out.bytes; exact zeros_oct
    have hen := entry_any k (by have := HK.out; omega) (part9 (num x) (layN k)) (fun f => by unfold part9; split; exact num_bd HX0.out f; omega) (hash9 x (layN k)) ⟨hoct, hl32⟩ W.drew
    rw [hc] at hen
    have hce : c.hash.length = 32 := by rw [← hc]; exact hl32
    obtain ⟨r, _, hri⟩ := neq_en c x hce HX0.out.len W
    have HNE := Lib.hid (fun Z => show (binOp .neq 27 (.agg (enV c)) (.agg (enV x))).run Tryd.prog Z = .ok (.bool r) Z from by
      obtain ⟨r', h1, h2⟩ := neq_en c x hce HX0.out.len Z
      have e : r' = r := by
        have h3 := h2.trans hri.symm
        revert h3
        cases r <;> cases r' <;> simp
      rw [h1, e])
    have HRI := Lib.hid (hri.trans (show c = x ↔ May k x by rw [← hc]; exact may_iff HK.out HX0.out HXK.out hall))
    have HEN := Lib.hid hen
    obtain ⟨gp, hgp⟩ : ∃ gp, part9 (num x) (layN k) = gp := ⟨_, rfl⟩
    obtain ⟨hl, hhl⟩ : ∃ hl, hash9 x (layN k) = hl := ⟨_, rfl⟩
    have hCo := hC.only
    have hCh := hC.h
    rw [hgp] at hCo HEN
    rw [hhl] at hCh HEN
    have HC := Lib.hid hC
    have q1 : (fun Z : World => At 61 Z (w1.heap.size + 1) (nums .u64 9 gp) ∧ At 25 Z (w1.heap.size + 2) (nums .u8 32 (bf hl)) ∧ At 27 Z w.heap.size (enV x) ∧ Z.cell? ⟨w.heap.size, 0, none⟩ = some (.int .i64 (k : Int))) W.drew := ⟨hCo, hCh, hC.en, (hC.en.cell 0).trans g0⟩
    have HD := Lib.hid hD
    have HGE := Lib.hid hge
    have HSX := Lib.hid sX
    clear hC hall hc hl32 hoct hen hce hri hgp hhl hCo hCh hD hge yk hCKX sX
    gi_wp2_with fail
    have HS3 := Lib.hid (show ∀ Z, Below W.heap.size W.drew Z → (fun Z : World => At 61 Z (w1.heap.size + 1) (nums .u64 9 gp) ∧ At 25 Z (w1.heap.size + 2) (nums .u8 32 (bf hl)) ∧ At 27 Z w.heap.size (enV x) ∧ Z.cell? ⟨w.heap.size, 0, none⟩ = some (.int .i64 (k : Int))) Z from fun Z hZ => ⟨(hZ.block _ q1.1.lt).trans q1.1, (hZ.block _ q1.2.1.lt).trans q1.2.1, (hZ.block _ q1.2.2.1.lt).trans q1.2.2.1, (hZ.cell (p := ⟨w.heap.size, 0, none⟩) (show w.heap.size < W.heap.size from q1.2.2.1.lt)).trans q1.2.2.2⟩)
    refine regionLIn0 (fun Z : World => At 61 Z (w1.heap.size + 1) (nums .u64 9 gp) ∧ At 25 Z (w1.heap.size + 2) (nums .u8 32 (bf hl)) ∧ At 27 Z w.heap.size (enV x) ∧ Z.cell? ⟨w.heap.size, 0, none⟩ = some (.int .i64 (k : Int))) 6 (by kernel_rfl) (by kernel_rfl) ?_
    refine takeL (i := 0) (oi := { dst := some 36, op := Go.Op.load 61 (Go.Operand.tmp 4), type := 61, pos := "entry.go:93", after := #[], guard := none }) (v := .agg (nums .u64 9 gp)) [6, 4] rfl (by kernel_rfl) (by kernel_rfl) (by kernel_rfl) (by kernel_rfl) (fun _ _ _ h => only_panic h) rfl ?_ q1 ?_
    · exact fun Z hZ => exec_load rfl rfl (load_numV hZ.1)
    simp only [Act.put, List.setIfInBounds_toArray, List.set_cons_zero, List.set_cons_succ]
    refine takeL (i := 1) (oi := { dst := some 37, op := Go.Op.fieldAddr 27 (Go.Operand.tmp 1) 0, type := 0, pos := "entry.go:93", after := #[], guard := none }) (v := .pointer (some ⟨w.heap.size, 0, none⟩)) [6, 4, 2] rfl (by kernel_rfl) (by kernel_rfl) (by kernel_rfl) (by kernel_rfl) (fun _ _ _ h => only_panic h) rfl ?_ q1 ?_
    · intro Z hZ; go_simp
    simp only [Act.put, List.setIfInBounds_toArray, List.set_cons_zero, List.set_cons_succ]
    refine takeL (i := 2) (oi := { dst := some 38, op := Go.Op.load 3 (Go.Operand.tmp 37), type := 3, pos := "entry.go:93", after := #[{ on := 1, ground := Go.Ground.data }], guard := none }) (v := .int .i64 (k : Int)) [6, 4] rfl (by kernel_rfl) (by kernel_rfl) (by kernel_rfl) (by kernel_rfl) (fun _ _ _ h => only_panic h) rfl ?_ q1 ?_
    · intro Z hZ; obtain ⟨z0, z1, z2, z3⟩ := hZ; clear z0 z1 z2; go_simp
    simp only [Act.put, List.setIfInBounds_toArray, List.set_cons_zero, List.set_cons_succ]
    refine takeL (i := 3) (oi := { dst := some 39, op := Go.Op.load 25 (Go.Operand.tmp 5), type := 25, pos := "entry.go:93", after := #[], guard := none }) (v := .agg (nums .u8 32 (bf hl))) [6, 4] rfl (by kernel_rfl) (by kernel_rfl) (by kernel_rfl) (by kernel_rfl) (fun _ _ _ h => only_panic h) rfl ?_ q1 ?_
    · exact fun Z hZ => exec_load rfl rfl (load_hashV hZ.2.1)
    simp only [Act.put, List.setIfInBounds_toArray, List.set_cons_zero, List.set_cons_succ]
    refine takeL (i := 5) (oi := { dst := some 41, op := Go.Op.load 27 (Go.Operand.tmp 1), type := 27, pos := "entry.go:93", after := #[], guard := none }) (v := .agg (enV x)) [6] rfl (by kernel_rfl) (by kernel_rfl) (by kernel_rfl) (by kernel_rfl) (fun _ _ _ h => only_panic h) rfl ?_ q1 ?_
    · exact fun Z hZ => exec_load rfl rfl (load_enV hZ.2.2.1)
    simp only [Act.put, List.setIfInBounds_toArray, List.set_cons_zero, List.set_cons_succ]
    refine oneL (i := 4) (o := { dst := some 40, op := Go.Op.call { callee := Go.Callee.value (Go.Operand.func 29), args := #[Go.Operand.tmp 36, Go.Operand.tmp 38, Go.Operand.tmp 39], argTypes := #[61, 3, 25] }, type := 27, pos := "entry.go:93", after := #[{ on := 0, ground := Go.Ground.data }, { on := 2, ground := Go.Ground.data }, { on := 3, ground := Go.Ground.data }], guard := none }) rfl (by kernel_rfl) rfl ?_
    refine wp_by_call (f := 29) (args := #[.agg (nums .u64 9 gp), .int .i64 (k : Int), .agg (nums .u8 32 (bf hl))]) (by go_simp) (HEN.out.mono ?_)
    rintro e Z ⟨rfl, hB2⟩
    have qZ := HS3.out Z hB2
    refine ⟨_, rfl, (fun _ => qZ), ?_⟩
    simp only [Act.put, List.setIfInBounds_toArray, List.set_cons_zero, List.set_cons_succ]
    refine oneL (i := 6) (o := { dst := some 42, op := Go.Op.binOp Go.BinOp.neq 27 (Go.Operand.tmp 40) (Go.Operand.tmp 41) 27, type := 4, pos := "entry.go:93", after := #[{ on := 4, ground := Go.Ground.data }, { on := 5, ground := Go.Ground.data }], guard := none }) rfl (by kernel_rfl) rfl ?_
    refine wp_by_run (w' := Z) (v := .bool r) (exec_neq rfl rfl rfl (HNE.out Z)) ⟨fun h => absurd rfl h, ?_⟩
    simp only [Act.put, List.setIfInBounds_toArray, List.set_cons_zero, List.set_cons_succ]
    refine doneL (by kernel_rfl) (⟨rfl, ?_⟩) _
    have q2 := HS3.out Z hB2
    have HB2 := Lib.hid hB2
    clear hB2 q1 q2
    have HZ := Lib.hid (show CkAt w w1.heap.size x (num x) (layN k) Z from HC.out.grown HLT1.out (grown_of' ((below_drewN (Below.refl W.heap.size W) 1).trans HB2.out)) (fun r e => by cases e))
    have HDZ := Lib.hid (show Z.heap[D]? = some (.deferred (some [])) from (HB2.out.block D (Array.getElem?_eq_some_iff.1 HD.out).1).trans HD.out)
    have k0 : Z.cell? ⟨w.heap.size + 1, 0, none⟩ = some (.int .i64 0) := HZ.out.er.cell 0
    have kf : Z.frozen? ⟨w.heap.size + 1, 0, none⟩ = false := HZ.out.er.free 0
    have HEND := Lib.hid (fun (v : Int) (o : Obj) => show At 29 ((Z.setCell ⟨w.heap.size + 1, 0, none⟩ (.int .i64 v)).putObj D o) (w.heap.size + 1) #[.int .i64 v] ∧ (Z.setCell ⟨w.heap.size + 1, 0, none⟩ (.int .i64 v)).heap[D]? = some (.deferred (some [])) ∧ Below w.heap.size w ((Z.setCell ⟨w.heap.size + 1, 0, none⟩ (.int .i64 v)).putObj D o) from by
      have h := HZ.out
      have hs := HSX.out
      have hg := HGE.out
      have hlt := HLT1.out
      have hd : (Z.setCell ⟨w.heap.size + 1, 0, none⟩ (.int .i64 v)).heap[D]? = some (.deferred (some [])) := (heap_setCell_other Z ⟨w.heap.size + 1, 0, none⟩ D _ (by show D ≠ w.heap.size + 1; omega)).trans HDZ.out
      refine ⟨(World.putObj_heap_other (by omega)).trans (h.er.set 0 (.int .i64 v)), hd, ?_⟩
      have hb := h.b.setCell (p := ⟨w.heap.size + 1, 0, none⟩) (by show w.heap.size ≤ w.heap.size + 1; omega) (.int .i64 v)
      exact ⟨hb.os, hb.tape, hb.output, by simpa using hb.size, fun j hj => (World.putObj_heap_other (by omega)).trans (hb.block j hj)⟩)
    cases r with
    | true =>
      have HNO := Lib.hid (show ¬ ∃ j, May j x from fun ⟨j, m⟩ => by
        have e := may_kind m HXK.out
        subst e
        have := HRI.out.2 m
        cases this)
      gi_wp2
      refine ⟨by simp, .inl ⟨_, _, rfl, run_takeDeferred (HEND.out 150 (.deferred none)).2.1, ?_⟩⟩
      exact ⟨.int .i64 150, results_er rfl (HEND.out 150 _).1, .inr ⟨HNO.out, rfl⟩, (HEND.out 150 _).2.2⟩
    | false =>
      have HYE := Lib.hid (show ∃ j, May j x from ⟨k, HRI.out.1 rfl⟩)
      gi_wp2
      refine ⟨by simp, .inl ⟨_, _, rfl, run_takeDeferred (HEND.out 0 (.deferred none)).2.1, ?_⟩⟩
      exact ⟨.int .i64 0, results_er rfl (HEND.out 0 _).1, .inl ⟨HYE.out, rfl⟩, (HEND.out 0 _).2.2⟩
  case stop =>
    rintro D pre W hge hpre ⟨⟨f, hf, hne, hh⟩, her, hb⟩ hD
    have HNO := Lib.hid (show ¬ ∃ j, May j x from fun ⟨j, m⟩ => by
      have e := may_kind m HXK.out
      subst e
      have hfl : f ∈ layN j := hpre.subset hf
      rw [lay_nums j m.is, List.mem_append] at hfl
      rcases hfl with q | q
      · have := m.holds f q
        rw [HG.out, hh] at this
        cases this
      · split at q <;> simp at q
        exact hne q)
    have HEND := Lib.hid (fun (o : Obj) => show At 29 (W.putObj D o) (w.heap.size + 1) #[.int .i64 150] ∧ Below w.heap.size w (W.putObj D o) from by
      refine ⟨(World.putObj_heap_other (by omega)).trans her, ⟨hb.os, hb.tape, hb.output, by simpa using hb.size, fun j hj => (World.putObj_heap_other (by omega)).trans (hb.block j hj)⟩⟩)
    have HD := Lib.hid hD
    clear hf hne hh her hb hD hge hpre yk hCKX sX
    gi_wp2
    refine ⟨by simp, .inl ⟨_, _, rfl, run_takeDeferred HD.out, ?_⟩⟩
    exact ⟨.int .i64 150, results_er rfl (HEND.out _).1, .inr ⟨HNO.out, rfl⟩, (HEND.out _).2⟩
end Go.Proofs.YtmeamdfmcpkofaaDoor
