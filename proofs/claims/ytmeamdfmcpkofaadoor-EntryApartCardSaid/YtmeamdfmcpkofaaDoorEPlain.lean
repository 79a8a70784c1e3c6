/- plainOf. -/
import Derived.Test.YtmeamdfmcpkofaaDoorEPlainR
import Derived.Test.YtmeamdfmcpkofaaDoorCScope
set_option linter.unusedVariables false
set_option linter.unusedSimpArgs false
namespace Go.Proofs.YtmeamdfmcpkofaaDoor
open Go.RowKit Go.Shelf
attribute [local go_sem] Oper.semAt_some
theorem bytesOf_app (g : Nat → Int) (a b : List Nat) : bytesOf g (a ++ b) = bytesOf g a ++ bytesOf g b := by simp [bytesOf]
/-- The numbers' fields ahead. -/
def ns (pre : List Nat) : List Nat := pre.filter (· ≠ 9)
theorem ns_app (pre : List Nat) {f : Nat} (h : f ≠ 9) : ns (pre ++ [f]) = ns pre ++ [f] := by simp [ns, h]
theorem ns_lay (k : Nat) (hk : 1 ≤ k ∧ k < 6) : ns (layN k) = numsL k := by
  have : k = 1 ∨ k = 2 ∨ k = 3 ∨ k = 4 ∨ k = 5 := by omega
  rcases this with rfl | rfl | rfl | rfl | rfl <;> rfl
theorem ns_len (k : Nat) {pre : List Nat} (h : pre <+: layN k) : sizesOf (ns pre) ≤ 58 := by
  obtain ⟨t, ht⟩ := h
  have h1 : sizesOf pre ≤ 58 := by
    have := sizes_small (k := k)
    rw [← ht, sizesOf_app] at this
    omega
  have h2 : ∀ l : List Nat, sizesOf (ns l) ≤ sizesOf l := by
    intro l
    induction l with
    | nil => exact Nat.le_refl _
    | cons a l ih =>
      by_cases h : a = 9
      · subst h; simp [ns, sizesOf] at ih ⊢; omega
      · simp [ns, h, sizesOf] at ih ⊢; omega
  exact Nat.le_trans (h2 pre) h1
/-- The boxes of plainOf: the bytes', the closure's, the numbers', the flag's. -/
structure Px where
  (x b p h f : Nat)
structure PlAt (w : World) (N : Nat) (q : Px) (x : En) (g : Nat → Int) (zs : List Int) (fl : Bool) (v0 : Value) (W : World) : Prop where
  en : At 27 W q.x (enV x)
  put : At 88 W q.p #[.func (.func 47) #[] #[.pointer (some ⟨q.b, 0, none⟩)]]
  all : At 61 W q.h (nums .u64 9 g)
  flag : At 4 W q.f #[.bool fl]
  row : ∃ v, At 28 W q.b #[v] ∧ Own8 w.heap.size W v zs ∧ (v.ownBlock = v0.ownBlock ∨ ∃ c, v.ownBlock = some c ∧ N + 3 ≤ c)
  b : Below w.heap.size w W
/-- The boxes lie apart, ahead of the loop. -/
structure Px.Ok (q : Px) (w : World) (N : Nat) (v0 : Value) : Prop where
  x : w.heap.size ≤ q.x ∧ q.x < N
  b : w.heap.size ≤ q.b ∧ q.b < N ∧ q.b ≠ q.x
  p : w.heap.size ≤ q.p ∧ q.p < N ∧ q.p ≠ q.x ∧ q.p ≠ q.b
  h : w.heap.size ≤ q.h ∧ q.h < N ∧ q.h ≠ q.x ∧ q.h ≠ q.b ∧ q.h ≠ q.p
  f : w.heap.size ≤ q.f ∧ q.f < N ∧ q.f ≠ q.x ∧ q.f ≠ q.b ∧ q.f ≠ q.p ∧ q.f ≠ q.h
  v : ∀ c, v0.ownBlock = some c → w.heap.size ≤ c ∧ c < N ∧ c ≠ q.x ∧ c ≠ q.b ∧ c ≠ q.p ∧ c ≠ q.h ∧ c ≠ q.f
theorem PlAt.grown {w : World} {N : Nat} {q : Px} {x : En} {g : Nat → Int} {zs : List Int} {fl : Bool} {v0 : Value} {W Y : World} {row : Option Nat} (h : PlAt w N q x g zs fl v0 W) (hq : q.Ok w N v0) (hg : W.grownBy Y row) (hr : ∀ r, row = some r → N ≤ r ∧ r ≤ N + 2) : PlAt w N q x g zs fl v0 Y := by
  have k : ∀ {T : TypeId} {b : Nat} {cs : Array Value}, b < N → At T W b cs → At T Y b cs := fun {T b cs} hb ha => (hg.block b ha.lt (fun e => by have := hr _ e.symm; omega)).trans ha
  obtain ⟨v, a1, a2, a3⟩ := h.row
  refine ⟨k hq.x.2 h.en, k hq.p.2.1 h.put, k hq.h.2.1 h.all, k hq.f.2.1 h.flag, ⟨v, k hq.b.2.1 a1, ?_, a3⟩, h.b.trans ⟨hg.os, hg.tape, hg.output, hg.size, fun j hj => hg.block j (by have := h.b.size; omega) (fun e => by have := hr _ e.symm; have := hq.x; omega)⟩⟩
  refine ⟨a2.1, a2.2.1, ?_⟩
  rcases a2.2.2 with e | ⟨c, cap, cur, rfl, hc, hh, r⟩
  · exact .inl e
  · refine .inr ⟨c, cap, cur, rfl, hc, (hg.block c (Array.getElem?_eq_some_iff.1 hh).1 (fun e => ?_)).trans hh, r⟩
    have h1 := hr _ e.symm
    rcases a3 with q' | ⟨c', e', h'⟩
    · simp [Value.ownBlock] at q'
      have := (hq.v c q'.symm).2.1
      omega
    · simp [Value.ownBlock] at e'; omega
theorem results_pl {v : Value} {fl : Bool} {tmps : Array Value} {w : World} (h2 : tmps.getD 2 undef = v) (h3 : tmps.getD 3 undef = .bool fl) : (results Tryd.f23 tmps).run Tryd.prog w = .ok (.tuple #[v, .bool fl]) w := by
  simp only [Array.getD_eq_getD_getElem?] at h2 h3
  simp [results, Tryd.results23, go_sem, h2, h3]
def PlainE (k : Nat) (x : En) (w : World) (e : Ending) (w' : World) : Prop := ∃ v, e = .returned (.tuple #[v, .bool (decide (3 ≤ k))]) ∧ Own8 w.heap.size w' v (plainL k x) ∧ Below w.heap.size w w'
def PlI (w : World) (N : Nat) (q : Px) (x : En) (k : Nat) (v0 : Value) (pre : List Nat) (W : World) : Prop := PlAt w N q x (num x) ((k : Int) :: bytesOf (num x) (ns pre)) false v0 W ∧ 9 ∉ pre
def PlX (w : World) (N : Nat) (q : Px) (x : En) (k : Nat) (v0 : Value) (pre : List Nat) (W : World) : Prop := ∃ p', pre = p' ++ [9] ∧ PlAt w N q x (num x) ((k : Int) :: bytesOf (num x) (ns p')) true v0 W
/-- What is left to do behind the boxes: the fields, one by one. -/
def afterPut (base Bb : Nat) (W : World) : Prop := True
set_option maxRecDepth 100000 in
set_option maxHeartbeats 4000000 in
theorem plainOf_any (k : Nat) (hk : 1 ≤ k ∧ k < 6) (x : En) (hx : x.ok) (hxk : x.kind = (k : Int)) (w : World) (hT : TabE w) : Calls Tryd.prog 23 #[.agg (enV x)] w (PlainE k x w) := by
  obtain ⟨g0, _⟩ := enV_get x
  rw [hxk] at g0
  obtain ⟨g, hg⟩ : ∃ g, num x = g := ⟨_, rfl⟩
  have HNO := Lib.hid (fun W => by have h := numbersOf_any x hx W; rw [hg, nums_lit] at h; exact h)
  have HG := Lib.hid hg
  clear hg
  have HT := Lib.hid hT
  have HK := Lib.hid hk
  have HX0 := Lib.hid hx
  have hB1 : Below w.heap.size w (w.alloc (.cells (enV x) 27)) := (Below.refl _ w).alloc (Nat.le_refl _) _
  have hA1 : At 27 (w.alloc (.cells (enV x) 27)) w.heap.size (enV x) := At.new _ _ _
  have P1 := Lib.hid (show lenN k ≤ 1000 by unfold lenN; have := sizes_small (k := k); rw [lay_nums k ⟨hk.1, by omega⟩, sizesOf_app] at this; split <;> omega)
  have P2 := Lib.hid (lenK_lenN (k := k) ⟨hk.1, by omega⟩)
  have P3 := Lib.hid (show k ≤ 255 by omega)
  have P4 := Lib.hid (show IntKind.u8.wrap (k : Int) = (k : Int) by simp [IntKind.wrap, IntKind.bits, IntKind.signed]; omega)
  have P5 := Lib.hid (hT.next hB1)
  have P6 := Lib.hid (show (w.alloc (.cells (enV x) 27)).cell? ⟨w.heap.size, 0, none⟩ = some (.int .i64 (k : Int)) from (hA1.cell 0).trans g0)
  have HA1 := Lib.hid (And.intro hA1 hB1)
  have HG0 := Lib.hid g0
  clear hT hk hxk hx hA1 hB1 g0
  unfold PlainE
  refine (callsIn_wide (n := 6)).1 ?_
  refine callsIn_of_wp_marks Tryd.func23 rfl trivial ?_ rfl
  simp only [Tryd.ntmps23, List.size_toArray, List.length_cons, List.length_nil, Nat.reduceAdd, Nat.reduceSub, Array.replicate_succ, Array.replicate_zero, List.push_toArray, List.append_toArray, List.nil_append, List.cons_append]
  gi_wp2_with fail
  try refine wpIn_scope_straight ?_
  gi_wp2_with fail
  refine region_plain k (lenN k) P1.out P2.out P3.out (enV x) w.heap.size (k : Int) P4.out _ P5.out P6.out ?_
  rintro b u12 u16 v0 W1 ⟨hBe, hbb, hAb, hOb⟩
  clear P1 P2 P3 P4 P5 P6
  have sw1 : (w.alloc (.cells (enV x) 27)).heap.size = w.heap.size + 1 := World.size_alloc _ _
  rw [sw1] at hBe hbb hOb
  have hE1 : At 27 W1 w.heap.size (enV x) := (hBe.block _ (by omega)).trans HA1.out.1
  have HE2 := Lib.hid (fun o => hE1.alloc o)
  have HBE := Lib.hid (show Below w.heap.size w W1 from HA1.out.2.trans (hBe.mono (by omega)))
  have HW1 := Lib.hid (And.intro hbb (And.intro hAb (And.intro hOb hE1)))
  clear hBe hbb hAb hOb hE1
  gi_wp2_with (first | (refine wpListIn_val (fun _ => trivial) rfl (by intro c hc; cases hc) (exec_load rfl rfl (load_enV (HE2.out _))) ?_) | fail)
  refine ⟨trivial, ?_⟩
  refine (callsIn_wide.2 (HNO.out _)).mono ?_
  rintro e w3 ⟨rfl, hB3⟩
  clear HNO
  gi_wp2_with fail
  refine wpIn_label ?_
  obtain ⟨hbb, hAb, hOb, hE1⟩ := HW1.out
  have hb1 : b < W1.heap.size := hAb.lt
  have hs3 : W1.heap.size + 1 ≤ w3.heap.size := by have := hB3.size; simpa using this
  have hB3' : Below W1.heap.size W1 w3 := ((Below.refl _ W1).alloc (Nat.le_refl _) _).trans (hB3.mono (by simp))
  obtain ⟨q, hq⟩ : ∃ q : Px, q = ⟨w.heap.size, b, W1.heap.size, w3.heap.size, w3.heap.size + 1⟩ := ⟨_, rfl⟩
  obtain ⟨V, hV⟩ : ∃ V, V = (w3.alloc (.cells (nums .u64 9 g) 61)).alloc (.cells #[.bool false] 4) := ⟨_, rfl⟩
  have sV : V.heap.size = w3.heap.size + 2 := by rw [hV]; simp
  obtain ⟨X, hX⟩ : ∃ X, X = V.alloc (.cells #[.int .i64 (k : Int)] 3) := ⟨_, rfl⟩
  have sX : X.heap.size = w3.heap.size + 3 := by rw [hX, World.size_alloc, sV]
  have hBV : Below w3.heap.size w3 V := by rw [hV]; exact ((Below.refl _ _).alloc (Nat.le_refl _) _).alloc (by simp) _
  have hBX : Below w3.heap.size w3 X := by rw [hX]; exact hBV.alloc (by omega) _
  have yk : X.heap[w3.heap.size + 2]? = some (.cells #[.int .i64 (k : Int)] 3 (0, 0)) := by rw [hX]; have := World.alloc_heap_new V (.cells #[.int .i64 (k : Int)] 3); rwa [sV] at this
  have hOk : q.Ok w (w3.heap.size + 2) v0 := by
    rw [hq]
    refine ⟨⟨Nat.le_refl _, by show w.heap.size < _; omega⟩, ⟨by show _ ≤ b; omega, by show b < _; omega, by show b ≠ w.heap.size; omega⟩, ⟨by show _ ≤ W1.heap.size; omega, by show W1.heap.size < _; omega, by show W1.heap.size ≠ w.heap.size; omega, by show W1.heap.size ≠ b; omega⟩,
      ⟨by show _ ≤ w3.heap.size; omega, by show w3.heap.size < _; omega, by show w3.heap.size ≠ w.heap.size; omega, by show w3.heap.size ≠ b; omega, by show w3.heap.size ≠ W1.heap.size; omega⟩,
      ⟨by show _ ≤ w3.heap.size + 1; omega, by show w3.heap.size + 1 < _; omega, by show w3.heap.size + 1 ≠ w.heap.size; omega, by show w3.heap.size + 1 ≠ b; omega, by show w3.heap.size + 1 ≠ W1.heap.size; omega, by show w3.heap.size + 1 ≠ w3.heap.size; omega⟩, fun c hc => ?_⟩
    have h1 := hOb.row c hc
    have h2 : c < W1.heap.size := by
      rcases hOb.2.2 with ⟨rfl, _⟩ | ⟨c', cap, cur, rfl, _, hh, _⟩
      · simp [Value.ownBlock] at hc
      · simp [Value.ownBlock] at hc; subst hc; exact (Array.getElem?_eq_some_iff.1 hh).1
    have h3 : c ≠ b := fun e => own_ne (v0 := v0) hAb (by decide) hOb (by rw [hc, e])
    exact ⟨by omega, by omega, by show c ≠ w.heap.size; omega, h3, by show c ≠ W1.heap.size; omega, by show c ≠ w3.heap.size; omega, by show c ≠ w3.heap.size + 1; omega⟩
  have hPl : PlAt w (w3.heap.size + 2) q x g [(k : Int)] false v0 X := by
    have hup : ∀ {T : TypeId} {j : Nat} {cs : Array Value}, At T W1 j cs → At T X j cs := fun {T j cs} ha => (hBX.block j (by have := ha.lt; omega)).trans ((hB3'.block j ha.lt).trans ha)
    rw [hq]
    refine ⟨hup hE1, ?_, ?_, ?_, ⟨v0, hup hAb, ?_, .inl rfl⟩, HBE.out.trans ((hB3'.mono (by have := HBE.out.size; omega)).trans (hBX.mono (by have := HBE.out.size; omega)))⟩
    · refine (hBX.block W1.heap.size (by omega)).trans ((hB3.block W1.heap.size (by simp)).trans ?_)
      exact World.alloc_heap_new W1 _
    · rw [hX, hV]; exact ((At.new _ _ _).alloc _).alloc _
    · rw [hX, hV]; exact (at_second _ _ _).alloc _
    · exact ((hOb.le (by omega)).below hB3' (Nat.le_refl _)).below hBX (Nat.le_refl _)
  have HAP := Lib.hid (fieldsOf_in (6 - 1) (k : Int) V)
  have HXX := Lib.hid hX
  have cV : V.cell? ⟨w.heap.size, 0, none⟩ = some (.int .i64 (k : Int)) := (hBV.cell (p := ⟨w.heap.size, 0, none⟩) (by show w.heap.size < _; omega)).trans ((hB3'.cell (p := ⟨w.heap.size, 0, none⟩) (by show w.heap.size < _; omega)).trans ((hE1.cell 0).trans HG0.out))
  have HX := Lib.hid (And.intro sX (And.intro hPl (And.intro hOk (And.intro yk (And.intro hq sV)))))
  have HS1 := Lib.hid (And.intro hb1 (And.intro hs3 hbb))
  simp only [nums_lit] at hV
  rw [← hV]
  clear hbb hAb hOb hE1 hb1 hs3 hB3 hB3' hq sV hX sX hBV hBX yk hOk hPl hV HW1 HE2
  gi_wp2_with fail
  refine ⟨trivial, ?_⟩
  refine HAP.out.mono ?_
  rintro e w' ⟨rfl, hw⟩
  obtain rfl : X = w' := HXX.out.trans hw.symm
  clear hw HXX HAP cV
  gi_wp2_with fail
  obtain ⟨sX, hPl, hOk, yk, hq, sV⟩ := HX.out
  obtain ⟨hb1, hs3, hbb⟩ := HS1.out
  rw [sV]
  refine wpIn_rangeFunc_brk (gf := 49) (lb := #[.pointer (some ⟨w3.heap.size + 2, 0, none⟩)]) rfl (enters_of Tryd.func49 (by kernel_rfl) rfl)
    (layN k) (encF k) (w3.heap.size + 2) (by omega) (fun j => j = q.b ∨ v0.ownBlock = some j ∨ j = q.f) 0
    (fields_seq (6 - 1) (by omega) (w3.heap.size + 2) k HK.out.2 _ w HT.out (fun j hj => by
      rw [hq] at hj
      rcases hj with e | e | e
      · rw [e]; exact ⟨by show _ ≤ b; omega, by show b ≠ _; omega⟩
      · have := hOk.v j e
        exact ⟨this.1, by have := this.2.1; omega⟩
      · rw [e]; exact ⟨by show _ ≤ w3.heap.size + 1; omega, by show w3.heap.size + 1 ≠ _; omega⟩) X hPl.b yk) (fun _ => rfl) (fun j hj => by
      rcases hj with e | e | e
      · have := hOk.b.2.1; omega
      · have := (hOk.v j e).2.1; omega
      · have := hOk.f.2.1; omega)
    (PlI w (w3.heap.size + 2) q x k v0) (PlX w (w3.heap.size + 2) q x k v0)
    (fun pre X' Y row hs' hg hr => ⟨hs'.1.grown hOk hg (fun r e => by have := hr r e; omega), hs'.2⟩)
    (fun pre X' Y row hs' hg hr => by obtain ⟨p', e1, e2⟩ := hs'; exact ⟨p', e1, e2.grown hOk hg (fun r e => by have := hr r e; omega)⟩)
    ⟨by rw [HG.out]; exact hPl, by simp⟩
    (fun pre f a₁ W' => ∃ B, a₁ = { tmps := #[.agg (enV x), .pointer (some ⟨w.heap.size, 0, none⟩), .slice none 0 0, .bool false, .pointer (some ⟨b, 0, none⟩), .pointer (some ⟨W1.heap.size, 0, none⟩), .pointer (some ⟨w3.heap.size, 0, none⟩), .pointer (some ⟨w3.heap.size + 1, 0, none⟩), .pointer (some ⟨B, 0, none⟩), .pointer (some ⟨w.heap.size, 0, none⟩), .int .i64 (k : Int), .int .i64 (lenN k : Nat), u12, .pointer (some ⟨w.heap.size, 0, none⟩), .int .i64 (k : Int), .int .u8 (k : Int), u16, v0, .func (.func 47) #[] #[.pointer (some ⟨b, 0, none⟩)], .agg (enV x), .agg #[.int .u64 (g 0), .int .u64 (g 1), .int .u64 (g 2), .int .u64 (g 3), .int .u64 (g 4), .int .u64 (g 5), .int .u64 (g 6), .int .u64 (g 7), .int .u64 (g 8)], .pointer (some ⟨w.heap.size, 0, none⟩), .int .i64 (k : Int), .func (.func 49) #[] #[.pointer (some ⟨w3.heap.size + 2, 0, none⟩)], .agg (fdV k f), undef, undef, undef, undef, undef, undef, undef, undef, undef, undef, undef, undef, undef], defers := [] } ∧ X.heap.size + 2 ≤ B ∧ W'.heap[B]? = some (.cells (fdV k f) 66 (0, 0)))
    (fun pre f a₁ X' Y row hs hg hr => by
      obtain ⟨B, e1, e2, e3⟩ := hs
      exact ⟨B, e1, e2, (hg.block _ (Array.getElem?_eq_some_iff.1 e3).1 (fun e => by have := hr _ e.symm; omega)).trans e3⟩)
    ?assign ?body ?done ?stop
  case assign =>
    intro l pre f W K hsz hpre hI hK
    have HK2 := Lib.hid hK
    clear hK
    unfold encF fdV
    gi_wp2
    exact HK2.out _ _ ((Only.refl _ _ _).alloc hsz _) ⟨hI.1.grown hOk (World.grownBy_alloc W _ none) (fun r e => by cases e), hI.2⟩ ⟨W.heap.size, rfl, hsz, World.alloc_heap_new W _⟩
  case body =>
    rintro l pre f a₁ W hsz hpre ⟨hC, hno⟩ ⟨B, rfl, hB, hBc⟩
    have hf : f ∈ layN k := hpre.subset (by simp)
    obtain ⟨j, hj, hjf⟩ := List.getElem_of_mem hf
    have hf10 : f < 10 := by
      have := lay_lt HK.out.2 hj
      rw [← hjf]
      simpa [List.getD, hj] using this
    have hns := ns_len k hpre
    unfold fdV at hBc
    have c0 : W.cell? ⟨B, 0, none⟩ = some (.int .i64 (f : Int)) := cell_of_row W B 0 _ _ _ hBc
    have c1 : W.cell? ⟨B, 1, none⟩ = some (.int .i64 (sizeN f : Int)) := cell_of_row W B 1 _ _ _ hBc
    have HC := Lib.hid hC
    have HNO9 := Lib.hid hno
    have HBL := Lib.hid (show B < W.heap.size from (Array.getElem?_eq_some_iff.1 hBc).1)
    have HSZ := Lib.hid (And.intro hsz (And.intro hB sX))
    have HOK := Lib.hid hOk
    have HQ := Lib.hid hq
    clear hC hno hBc hsz hB hf hj hjf hpre yk hPl sX hOk sV hb1 hs3 hbb
    by_cases hf9 : f = 9
    · subst hf9
      replace c0 : W.cell? ⟨B, 0, none⟩ = some (.int .i64 9) := c0
      clear c1 hf10 hns hq
      have hfl := HC.out.flag
      rw [HQ.out] at hfl
      have k0 : W.cell? ⟨w3.heap.size + 1, 0, none⟩ = some (.bool false) := hfl.cell 0
      have kf : W.frozen? ⟨w3.heap.size + 1, 0, none⟩ = false := hfl.free 0
      have HP := Lib.hid (show Only (X.heap.size + 2) (fun j => j = q.b ∨ v0.ownBlock = some j ∨ j = q.f) W (W.setCell ⟨w3.heap.size + 1, 0, none⟩ (.bool true)) ∧ PlX w (w3.heap.size + 2) q x k v0 (pre ++ [9]) (W.setCell ⟨w3.heap.size + 1, 0, none⟩ (.bool true)) from by
        have hOk := HOK.out
        have h := HC.out
        have e : q.f = w3.heap.size + 1 := by rw [HQ.out]
        refine ⟨(Only.refl (X.heap.size + 2) (fun j => j = q.b ∨ v0.ownBlock = some j ∨ j = q.f) W).setCell ⟨w3.heap.size + 1, 0, none⟩ (.inr (.inr e.symm)) _, pre, rfl, ?_⟩
        have hne : ∀ {T : TypeId} {b : Nat} {cs : Array Value}, b ≠ q.f → At T W b cs → At T (W.setCell ⟨w3.heap.size + 1, 0, none⟩ (.bool true)) b cs := fun {T b cs} hb ha => (heap_setCell_other W ⟨w3.heap.size + 1, 0, none⟩ b _ (by rw [← e]; exact hb)).trans ha
        obtain ⟨v, a1, a2, a3⟩ := h.row
        refine ⟨hne (fun q' => hOk.f.2.2.1 q'.symm) h.en, hne (fun q' => hOk.f.2.2.2.2.1 q'.symm) h.put, hne (fun q' => hOk.f.2.2.2.2.2 q'.symm) h.all, by rw [e]; exact hfl.set 0 (.bool true), ⟨v, hne (fun q' => hOk.f.2.2.2.1 q'.symm) a1, ?_, a3⟩, h.b.setCell (p := ⟨w3.heap.size + 1, 0, none⟩) (by have := hOk.f.1; rw [e] at this; exact this) _⟩
        refine ⟨a2.1, a2.2.1, ?_⟩
        rcases a2.2.2 with e2 | ⟨c, cap, cur, rfl, hc, hh, r⟩
        · exact .inl e2
        · refine .inr ⟨c, cap, cur, rfl, hc, (heap_setCell_other W ⟨w3.heap.size + 1, 0, none⟩ c _ (fun e3 => ?_)).trans hh, r⟩
          have e3' : c = q.f := by rw [e]; exact e3
          rcases a3 with q' | ⟨c', e', h'⟩
          · simp [Value.ownBlock] at q'
            exact (hOk.v c q'.symm).2.2.2.2.2.2 e3'
          · simp [Value.ownBlock] at e'
            have := hOk.f.2.1; omega)
      clear hfl
      gi_wp2
      exact ⟨rfl, HP.out⟩
    · have hf8 : f < 9 := by omega
      have g9 : ((f : Int) == 9) = false := by simp; omega
      have f0 : (0 : Int) ≤ (f : Int) := by omega
      have f9 : (f : Int) < 9 := by omega
      have hgb : 0 ≤ g f ∧ g f < 18446744073709551616 := by rw [← HG.out]; exact num_bd HX0.out f
      have hs8 : sizeN f ≤ 8 := by
        have : f = 0 ∨ f = 1 ∨ f = 2 ∨ f = 3 ∨ f = 4 ∨ f = 5 ∨ f = 6 ∨ f = 7 ∨ f = 8 := by omega
        rcases this with rfl | rfl | rfl | rfl | rfl | rfl | rfl | rfl | rfl <;> decide
      obtain ⟨v, a1, a2, a3⟩ := HC.out.row
      have hp := HC.out.put
      have ha := HC.out.all
      rw [HQ.out] at a1 hp ha
      rw [HG.out] at ha
      have hlen : ((k : Int) :: bytesOf (num x) (ns pre)).length ≤ 500 := by
        rw [ns_app pre hf9, sizesOf_app] at hns
        rw [List.length_cons, bytesOf_len]
        omega
      have hput := put_any (g f) hgb (sizeN f) hs8 w.heap.size b v _ hlen W.drew a1 a2 HC.out.b.size
      obtain ⟨sz, hsz⟩ : ∃ sz, sizeN f = sz := ⟨_, rfl⟩
      have e9 : ((k : Int) :: bytesOf (num x) (ns pre)) ++ be (sizeN f) (g f) = (k : Int) :: bytesOf (num x) (ns (pre ++ [f])) := by
        rw [ns_app pre hf9, bytesOf_app, ← HG.out]
        simp [bytesOf]
      rw [e9] at hput
      rw [hsz] at hput c1
      have HPUT := Lib.hid hput
      have HV3 := Lib.hid a3
      have d0 : W.drew.cell? ⟨w3.heap.size, f, none⟩ = some (.int .u64 (g f)) := ha.num f hf8
      have d1 : W.drew.cell? ⟨W1.heap.size, 0, none⟩ = some (.func (.func 47) #[] #[.pointer (some ⟨b, 0, none⟩)]) := hp.cell 0
      have q1 : (fun Z : World => Z.cell? ⟨B, 0, none⟩ = some (.int .i64 (f : Int)) ∧ Z.cell? ⟨B, 1, none⟩ = some (.int .i64 (sz : Int)) ∧ Z.cell? ⟨w3.heap.size, f, none⟩ = some (.int .u64 (g f)) ∧ Z.cell? ⟨W1.heap.size, 0, none⟩ = some (.func (.func 47) #[] #[.pointer (some ⟨b, 0, none⟩)])) W.drew := ⟨c0, c1, d0, d1⟩
      have HQ1 := Lib.hid q1
      clear c1 hgb hs8 a1 a2 a3 hp ha hlen hput e9 d0 d1 hns hsz q1 hq
      gi_wp2_with fail
      have q1 := HQ1.out
      refine regionLIn (fun Z : World => Z.cell? ⟨B, 0, none⟩ = some (.int .i64 (f : Int)) ∧ Z.cell? ⟨B, 1, none⟩ = some (.int .i64 (sz : Int)) ∧ Z.cell? ⟨w3.heap.size, f, none⟩ = some (.int .u64 (g f)) ∧ Z.cell? ⟨W1.heap.size, 0, none⟩ = some (.func (.func 47) #[] #[.pointer (some ⟨b, 0, none⟩)])) 7 (by kernel_rfl) (by kernel_rfl) ?_
      refine takeL (i := 0) (oi := { dst := some 28, op := Go.Op.load 88 (Go.Operand.tmp 5), type := 88, pos := "entry.go:263", after := #[], guard := none }) (v := .func (.func 47) #[] #[.pointer (some ⟨b, 0, none⟩)]) [7] rfl (by kernel_rfl) (by kernel_rfl) (by kernel_rfl) (by kernel_rfl) (fun _ _ _ h => only_panic h) rfl ?_ q1 ?_
      · intro Z hZ; obtain ⟨z0, z1, z2, z3⟩ := hZ; go_simp
      simp only [Act.put, List.setIfInBounds_toArray, List.set_cons_zero, List.set_cons_succ]
      refine takeL (i := 1) (oi := { dst := some 29, op := Go.Op.fieldAddr 66 (Go.Operand.tmp 8) 0, type := 0, pos := "entry.go:263", after := #[], guard := none }) (v := .pointer (some ⟨B, 0, none⟩)) [7, 4, 3, 2] rfl (by kernel_rfl) (by kernel_rfl) (by kernel_rfl) (by kernel_rfl) (fun _ _ _ h => only_panic h) rfl ?_ q1 ?_
      · intro Z hZ; go_simp
      simp only [Act.put, List.setIfInBounds_toArray, List.set_cons_zero, List.set_cons_succ]
      refine takeL (i := 2) (oi := { dst := some 30, op := Go.Op.load 3 (Go.Operand.tmp 29), type := 3, pos := "entry.go:263", after := #[{ on := 1, ground := Go.Ground.data }], guard := none }) (v := .int .i64 (f : Int)) [7, 4, 3] rfl (by kernel_rfl) (by kernel_rfl) (by kernel_rfl) (by kernel_rfl) (fun _ _ _ h => only_panic h) rfl ?_ q1 ?_
      · intro Z hZ; obtain ⟨z0, z1, z2, z3⟩ := hZ; go_simp
      simp only [Act.put, List.setIfInBounds_toArray, List.set_cons_zero, List.set_cons_succ]
      refine takeL (i := 3) (oi := { dst := some 31, op := Go.Op.indexAddr 61 (Go.Operand.tmp 6) (Go.Operand.tmp 30), type := 0, pos := "entry.go:263", after := #[{ on := 2, ground := Go.Ground.data }], guard := none }) (v := .pointer (some ⟨w3.heap.size, f, none⟩)) [7, 4] rfl (by kernel_rfl) (by kernel_rfl) (by kernel_rfl) (by kernel_rfl) (fun _ _ _ h => only_panic h) rfl ?_ q1 ?_
      · intro Z hZ; go_simp
      simp only [Act.put, List.setIfInBounds_toArray, List.set_cons_zero, List.set_cons_succ]
      refine takeL (i := 4) (oi := { dst := some 32, op := Go.Op.load 23 (Go.Operand.tmp 31), type := 23, pos := "entry.go:263", after := #[{ on := 3, ground := Go.Ground.data }], guard := none }) (v := .int .u64 (g f)) [7] rfl (by kernel_rfl) (by kernel_rfl) (by kernel_rfl) (by kernel_rfl) (fun _ _ _ h => only_panic h) rfl ?_ q1 ?_
      · intro Z hZ; obtain ⟨z0, z1, z2, z3⟩ := hZ; go_simp
      simp only [Act.put, List.setIfInBounds_toArray, List.set_cons_zero, List.set_cons_succ]
      refine takeL (i := 5) (oi := { dst := some 33, op := Go.Op.fieldAddr 66 (Go.Operand.tmp 8) 1, type := 0, pos := "entry.go:263", after := #[], guard := none }) (v := .pointer (some ⟨B, 1, none⟩)) [7, 6] rfl (by kernel_rfl) (by kernel_rfl) (by kernel_rfl) (by kernel_rfl) (fun _ _ _ h => only_panic h) rfl ?_ q1 ?_
      · intro Z hZ; go_simp
      simp only [Act.put, List.setIfInBounds_toArray, List.set_cons_zero, List.set_cons_succ]
      refine takeL (i := 6) (oi := { dst := some 34, op := Go.Op.load 3 (Go.Operand.tmp 33), type := 3, pos := "entry.go:263", after := #[{ on := 5, ground := Go.Ground.data }], guard := none }) (v := .int .i64 (sz : Int)) [7] rfl (by kernel_rfl) (by kernel_rfl) (by kernel_rfl) (by kernel_rfl) (fun _ _ _ h => only_panic h) rfl ?_ q1 ?_
      · intro Z hZ; obtain ⟨z0, z1, z2, z3⟩ := hZ; go_simp
      simp only [Act.put, List.setIfInBounds_toArray, List.set_cons_zero, List.set_cons_succ]
      refine oneL (i := 7) (o := { dst := some 35, op := Go.Op.call { callee := Go.Callee.value (Go.Operand.tmp 28), args := #[Go.Operand.tmp 32, Go.Operand.tmp 34], argTypes := #[23, 3] }, type := 0, pos := "entry.go:263", after := #[{ on := 0, ground := Go.Ground.data }, { on := 4, ground := Go.Ground.data }, { on := 6, ground := Go.Ground.data }], guard := none }) rfl (by kernel_rfl) rfl ?_
      refine wp_by_call (f := 47) (args := #[.int .u64 (g f), .int .i64 (sz : Int), .pointer (some ⟨b, 0, none⟩)]) (by go_simp) (HPUT.out.mono ?_)
      rintro e Z ⟨⟨u, rfl⟩, v', hPE⟩
      refine ⟨_, rfl, (fun h => absurd rfl h), ?_⟩
      simp only [Act.put, List.setIfInBounds_toArray, List.set_cons_zero, List.set_cons_succ]
      refine doneL (by kernel_rfl) (⟨rfl, ?_⟩) _
      have HP := Lib.hid (show Only (X.heap.size + 2) (fun j => j = q.b ∨ v0.ownBlock = some j ∨ j = q.f) W Z ∧ PlI w (w3.heap.size + 2) q x k v0 (pre ++ [f]) Z from by
        have hOk := HOK.out
        have h := HC.out
        have eb : q.b = b := by rw [HQ.out]
        have hs := HSZ.out
        have hvb := HV3.out
        have hne : ∀ {T : TypeId} {j : Nat} {cs : Array Value}, j ≠ q.b → some j ≠ v.ownBlock → At T W j cs → At T Z j cs := fun {T j cs} hb hv ha => (hPE.keep j ha.lt (by rw [← eb]; exact hb) hv).trans ha
        have hov : ∀ j, j < w3.heap.size + 2 → v0.ownBlock ≠ some j → some j ≠ v.ownBlock := fun j hj hv e => by
          rcases hvb with q' | ⟨c', e', h'⟩
          · exact hv (q'.symm.trans e.symm)
          · rw [e'] at e; cases e; omega
        have hvv : ∀ j, (j = q.x ∨ j = q.p ∨ j = q.h ∨ j = q.f) → v0.ownBlock ≠ some j := fun j hj e => by
          have := hOk.v j e
          rcases hj with q' | q' | q' | q' <;> omega
        refine ⟨⟨hPE.size, fun j hj hs' => ?_⟩, ⟨hne (fun q' => hOk.b.2.2 q'.symm) (hov _ (by have := hOk.x; omega) (hvv _ (.inl rfl))) h.en, hne hOk.p.2.2.2 (hov _ (by have := hOk.p; omega) (hvv _ (.inr (.inl rfl)))) h.put, hne hOk.h.2.2.2.1 (hov _ (by have := hOk.h; omega) (hvv _ (.inr (.inr (.inl rfl))))) h.all, hne hOk.f.2.2.2.1 (hov _ (by have := hOk.f; omega) (hvv _ (.inr (.inr (.inr rfl))))) h.flag, ⟨v', by rw [eb]; exact hPE.box, hPE.own, ?_⟩, ?_⟩, ?_⟩
        · have h' : ¬ (j = q.b ∨ v0.ownBlock = some j ∨ j = q.f) := hs'
          refine hPE.keep j (show j < W.heap.size by omega) (by rw [← eb]; exact fun e => h' (.inl e)) (fun e => ?_)
          rcases hvb with q' | ⟨c', e', hc'⟩
          · exact h' (.inr (.inl (q'.symm.trans e.symm)))
          · rw [e'] at e; cases e; omega
        · rcases hPE.blk with q' | ⟨c', e', hc'⟩
          · rw [q']; exact hvb
          · exact .inr ⟨c', e', by have : W.drew.heap.size = W.heap.size := rfl; omega⟩
        · refine h.b.trans ⟨hPE.os, hPE.tape, hPE.output, hPE.size, fun j hj => hPE.keep j (show j < W.heap.size by have := h.b.size; omega) (by have := hOk.b.1; omega) (fun e => ?_)⟩
          have := HC.out
          rcases hvb with q' | ⟨c', e', hc'⟩
          · have := hOk.v j (q'.symm.trans e.symm); omega
          · rw [e'] at e; cases e; have := hOk.x; omega
        · intro h9
          rcases List.mem_append.1 h9 with q' | q'
          · exact HNO9.out q'
          · exact hf9 (List.mem_singleton.1 q').symm)
      clear hPE
      gi_wp2
      exact HP.out
  case done =>
    rintro D W hge ⟨hC, hno⟩ hD
    have h3 : ¬ 3 ≤ k := fun h => hno (by rw [lay_nums k ⟨HK.out.1, by have := HK.out; omega⟩, if_pos h]; simp)
    have hzs : (k : Int) :: bytesOf (num x) (ns (layN k)) = plainL k x := by rw [ns_lay k HK.out]; rfl
    rw [hzs] at hC
    obtain ⟨v, a1, a2, a3⟩ := hC.row
    have hfl := hC.flag
    have eb : q.b = b := by rw [hq]
    have ef : q.f = w3.heap.size + 1 := by rw [hq]
    have HEND := Lib.hid (fun (o : Obj) => show Own8 w.heap.size (W.drew.putObj D o) v (plainL k x) ∧ Below w.heap.size w (W.drew.putObj D o) from by
      have h := PlAt.grown (W := W.drew) (Y := W.drew.putObj D o) (row := some D) ⟨hC.en, hC.put, hC.all, hC.flag, hC.row, below_drewN hC.b 1⟩ hOk (grownBy_putObj' W.drew D o) (fun r e => by cases e; omega)
      obtain ⟨v2, b1, b2, b3⟩ := h.row
      have hb : (W.drew.putObj D o).heap[q.b]? = W.heap[q.b]? := World.putObj_heap_other (by have := hOk.b.2.1; omega)
      unfold At at a1 b1
      rw [hb, a1] at b1
      cases b1
      exact ⟨b2, h.b⟩)
    have q1 : (fun Z : World => Z.cell? ⟨b, 0, none⟩ = some v ∧ Z.cell? ⟨w3.heap.size + 1, 0, none⟩ = some (.bool false)) W.drew := by
      rw [eb] at a1; rw [ef] at hfl
      exact ⟨a1.cell 0, hfl.cell 0⟩
    have HD := Lib.hid hD
    have H3 := Lib.hid h3
    clear hC a1 a2 a3 hfl hzs h3 hge hD yk hPl sX hOk sV hb1 hs3 hbb eb ef hq
    gi_wp2_with fail
    refine regionLIn0 (fun Z : World => Z.cell? ⟨b, 0, none⟩ = some v ∧ Z.cell? ⟨w3.heap.size + 1, 0, none⟩ = some (.bool false)) 3 (by kernel_rfl) (by kernel_rfl) ?_
    refine takeL (i := 0) (oi := { dst := some 36, op := Go.Op.load 28 (Go.Operand.tmp 4), type := 28, pos := "entry.go:265", after := #[], guard := none }) (v := v) [3, 2] rfl (by kernel_rfl) (by kernel_rfl) (by kernel_rfl) (by kernel_rfl) (fun _ _ _ h => only_panic h) rfl ?_ q1 ?_
    · intro Z hZ; obtain ⟨z0, z1⟩ := hZ; go_simp
    simp only [Act.put, List.setIfInBounds_toArray, List.set_cons_zero, List.set_cons_succ]
    refine takeL (i := 1) (oi := { dst := some 37, op := Go.Op.load 4 (Go.Operand.tmp 7), type := 4, pos := "entry.go:265", after := #[{ on := 2, ground := Go.Ground.gcOnly Go.Departure.lateStores }], guard := none }) (v := .bool false) [3] rfl (by kernel_rfl) (by kernel_rfl) (by kernel_rfl) (by kernel_rfl) (fun _ _ _ h => only_panic h) rfl ?_ q1 ?_
    · intro Z hZ; obtain ⟨z0, z1⟩ := hZ; go_simp
    simp only [Act.put, List.setIfInBounds_toArray, List.set_cons_zero, List.set_cons_succ]
    refine oneL (i := 2) (o := { dst := some 2, op := Go.Op.assign (Go.Operand.tmp 36), type := 28, pos := "entry.go:265", after := #[{ on := 0, ground := Go.Ground.data }, { on := 0, ground := Go.Ground.phase }, { on := 1, ground := Go.Ground.textOnly Go.Departure.lateStores }], guard := none }) rfl (by kernel_rfl) rfl ?_
    refine wp_by_run (w' := W.drew) (v := v) (by go_simp) ⟨fun _ => q1, ?_⟩
    simp only [Act.put, List.setIfInBounds_toArray, List.set_cons_zero, List.set_cons_succ]
    refine oneL (i := 3) (o := { dst := some 3, op := Go.Op.assign (Go.Operand.tmp 37), type := 4, pos := "entry.go:265", after := #[{ on := 1, ground := Go.Ground.data }, { on := 2, ground := Go.Ground.chain }, { on := 0, ground := Go.Ground.phase }, { on := 1, ground := Go.Ground.phase }, { on := 2, ground := Go.Ground.phase }], guard := none }) rfl (by kernel_rfl) rfl ?_
    refine wp_by_run (w' := W.drew) (v := .bool false) (by go_simp) ⟨fun h => absurd rfl h, ?_⟩
    simp only [Act.put, List.setIfInBounds_toArray, List.set_cons_zero, List.set_cons_succ]
    refine doneL (by kernel_rfl) (⟨rfl, ?_⟩) _
    gi_wp2
    first | rw [Exit.noGoto_ret] | skip
    refine ⟨by simp, .inl ⟨_, _, rfl, run_takeDeferred (w := W.drew) HD.out, ?_⟩⟩
    exact ⟨.tuple #[v, .bool false], results_pl rfl rfl, v, by rw [decide_eq_false H3.out], (HEND.out _).1, (HEND.out _).2⟩
  case stop =>
    rintro D pre W hge hpre ⟨p', hp', hC⟩ hD
    have h3 : 3 ≤ k := by
      have h9 : 9 ∈ layN k := hpre.subset (by rw [hp']; simp)
      rw [lay_nums k ⟨HK.out.1, by have := HK.out; omega⟩, List.mem_append] at h9
      rcases h9 with q' | q'
      · exact absurd (nums_lt q') (by omega)
      · split at q'
        · assumption
        · simp at q'
    have hzs : (k : Int) :: bytesOf (num x) (ns p') = plainL k x := by
      have hl := lay_nums k ⟨HK.out.1, by have := HK.out; omega⟩
      rw [if_pos h3] at hl
      obtain ⟨t, ht⟩ := hpre
      have hn9 : ∀ f ∈ numsL k, f ≠ 9 := fun f hf e => by have := nums_lt hf; omega
      have : p' = numsL k := by
        rw [hp', hl, List.append_assoc] at ht
        have hcnt : 9 ∉ numsL k := fun h => hn9 9 h rfl
        rcases List.append_eq_append_iff.1 ht with ⟨a, ha, hb⟩ | ⟨a, ha, hb⟩
        · cases a with
          | nil => simpa using ha.symm
          | cons y a =>
            simp at hb
            obtain ⟨rfl, hb⟩ := hb
            exact absurd (by rw [ha]; simp) hcnt
        · cases a with
          | nil => simpa using ha
          | cons y a =>
            simp at hb
      rw [this]
      unfold plainL ns
      rw [List.filter_eq_self.2 (fun f hf => by simpa using hn9 f hf)]
    rw [hzs] at hC
    obtain ⟨v, a1, a2, a3⟩ := hC.row
    have hfl := hC.flag
    have eb : q.b = b := by rw [hq]
    have ef : q.f = w3.heap.size + 1 := by rw [hq]
    have HEND := Lib.hid (fun (o : Obj) => show Own8 w.heap.size (W.drew.putObj D o) v (plainL k x) ∧ Below w.heap.size w (W.drew.putObj D o) from by
      have h := PlAt.grown (W := W.drew) (Y := W.drew.putObj D o) (row := some D) ⟨hC.en, hC.put, hC.all, hC.flag, hC.row, below_drewN hC.b 1⟩ hOk (grownBy_putObj' W.drew D o) (fun r e => by cases e; omega)
      obtain ⟨v2, b1, b2, b3⟩ := h.row
      have hb : (W.drew.putObj D o).heap[q.b]? = W.heap[q.b]? := World.putObj_heap_other (by have := hOk.b.2.1; omega)
      unfold At at a1 b1
      rw [hb, a1] at b1
      cases b1
      exact ⟨b2, h.b⟩)
    have q1 : (fun Z : World => Z.cell? ⟨b, 0, none⟩ = some v ∧ Z.cell? ⟨w3.heap.size + 1, 0, none⟩ = some (.bool true)) W.drew := by
      rw [eb] at a1; rw [ef] at hfl
      exact ⟨a1.cell 0, hfl.cell 0⟩
    have HD := Lib.hid hD
    have H3 := Lib.hid h3
    clear hC a1 a2 a3 hfl hzs h3 hge hD yk hPl sX hOk sV hb1 hs3 hbb eb ef hq
    gi_wp2_with fail
    refine regionLIn0 (fun Z : World => Z.cell? ⟨b, 0, none⟩ = some v ∧ Z.cell? ⟨w3.heap.size + 1, 0, none⟩ = some (.bool true)) 3 (by kernel_rfl) (by kernel_rfl) ?_
    refine takeL (i := 0) (oi := { dst := some 36, op := Go.Op.load 28 (Go.Operand.tmp 4), type := 28, pos := "entry.go:265", after := #[], guard := none }) (v := v) [3, 2] rfl (by kernel_rfl) (by kernel_rfl) (by kernel_rfl) (by kernel_rfl) (fun _ _ _ h => only_panic h) rfl ?_ q1 ?_
    · intro Z hZ; obtain ⟨z0, z1⟩ := hZ; go_simp
    simp only [Act.put, List.setIfInBounds_toArray, List.set_cons_zero, List.set_cons_succ]
    refine takeL (i := 1) (oi := { dst := some 37, op := Go.Op.load 4 (Go.Operand.tmp 7), type := 4, pos := "entry.go:265", after := #[{ on := 2, ground := Go.Ground.gcOnly Go.Departure.lateStores }], guard := none }) (v := .bool true) [3] rfl (by kernel_rfl) (by kernel_rfl) (by kernel_rfl) (by kernel_rfl) (fun _ _ _ h => only_panic h) rfl ?_ q1 ?_
    · intro Z hZ; obtain ⟨z0, z1⟩ := hZ; go_simp
    simp only [Act.put, List.setIfInBounds_toArray, List.set_cons_zero, List.set_cons_succ]
    refine oneL (i := 2) (o := { dst := some 2, op := Go.Op.assign (Go.Operand.tmp 36), type := 28, pos := "entry.go:265", after := #[{ on := 0, ground := Go.Ground.data }, { on := 0, ground := Go.Ground.phase }, { on := 1, ground := Go.Ground.textOnly Go.Departure.lateStores }], guard := none }) rfl (by kernel_rfl) rfl ?_
    refine wp_by_run (w' := W.drew) (v := v) (by go_simp) ⟨fun _ => q1, ?_⟩
    simp only [Act.put, List.setIfInBounds_toArray, List.set_cons_zero, List.set_cons_succ]
    refine oneL (i := 3) (o := { dst := some 3, op := Go.Op.assign (Go.Operand.tmp 37), type := 4, pos := "entry.go:265", after := #[{ on := 1, ground := Go.Ground.data }, { on := 2, ground := Go.Ground.chain }, { on := 0, ground := Go.Ground.phase }, { on := 1, ground := Go.Ground.phase }, { on := 2, ground := Go.Ground.phase }], guard := none }) rfl (by kernel_rfl) rfl ?_
    refine wp_by_run (w' := W.drew) (v := .bool true) (by go_simp) ⟨fun h => absurd rfl h, ?_⟩
    simp only [Act.put, List.setIfInBounds_toArray, List.set_cons_zero, List.set_cons_succ]
    refine doneL (by kernel_rfl) (⟨rfl, ?_⟩) _
    gi_wp2
    first | rw [Exit.noGoto_ret] | skip
    refine ⟨by simp, .inl ⟨_, _, rfl, run_takeDeferred (w := W.drew) HD.out, ?_⟩⟩
    exact ⟨.tuple #[v, .bool true], results_pl rfl rfl, v, by rw [decide_eq_true H3.out], (HEND.out _).1, (HEND.out _).2⟩
end Go.Proofs.YtmeamdfmcpkofaaDoor
