/- What the iterator gives, as a list; Why. -/
import Derived.Test.YtmhgphbafiilnaaFIter
import Derived.Test.YtmhgphbafiilnaaFSls
import Derived.Test.YtmhgphbafiilnaaCScope
set_option linter.unusedVariables false
set_option linter.unusedSimpArgs false
namespace Go.Proofs.Ytmhgphbafiilnaa
open Go.RowKit Go.Shelf
attribute [local go_sem] Oper.semAt_some
def lastWhy (l : List It) : Nat := (l.getLast?.map It.why).getD 0
theorem lastWhy_snoc (l : List It) (x : It) : lastWhy (l ++ [x]) = x.why := by simp [lastWhy]
/-- Why there is a tail; 0: there is none. -/
def tailWhy (rest : List Int) : Nat := if rest = [] then 0 else whyOf rest
theorem lastWhy_items (b : Nat) : ∀ (ls : List (List Int)) (off : Nat) (rest : List Int), lastWhy (itemsOf b off ls rest) = tailWhy rest
  | [], off, rest => by
    unfold itemsOf tailWhy
    split
    · rfl
    · simp [lastWhy]
  | L :: ls, off, rest => by
    have ih := lastWhy_items b ls (off + (6 + L.length)) rest
    unfold itemsOf
    cases h : itemsOf b (off + (6 + L.length)) ls rest with
    | nil => rw [h] at ih; rw [← ih]; simp [lastWhy]
    | cons y ys => rw [h] at ih; rw [← ih]; simp [lastWhy]
theorem items_done (b : Nat) : ∀ (ls : List (List Int)) (off : Nat) (rest : List Int), (rest = [] ∨ whyOf rest ≠ 0) → (∀ x ∈ itemsOf b off ls rest, x.why = 0) → rest = [] ∧ (itemsOf b off ls rest).map It.L = ls
  | [], off, rest, h, h2 => by
    unfold itemsOf at h2 ⊢
    by_cases e : rest = []
    · simp [e]
    · rw [if_neg e] at h2
      rcases h with h | h
      · exact absurd h e
      · exact absurd (h2 _ List.mem_cons_self) h
  | L :: ls, off, rest, h, h2 => by
    unfold itemsOf at h2 ⊢
    obtain ⟨e1, e2⟩ := items_done b ls (off + (6 + L.length)) rest h (fun x hx => h2 x (List.mem_cons_of_mem _ hx))
    exact ⟨e1, by rw [List.map_cons, e2]⟩
theorem items_stop (b : Nat) : ∀ (ls : List (List Int)) (off : Nat) (rest : List Int) (q : List It) (x : It), q ++ [x] <+: itemsOf b off ls rest → x.why ≠ 0 → rest ≠ [] ∧ q.map It.L = ls
  | [], off, rest, q, x, h, hx => by
    unfold itemsOf at h
    by_cases e : rest = []
    · rw [if_pos e] at h
      have := h.length_le
      simp at this
    · rw [if_neg e] at h
      have := h.length_le
      have hq : q = [] := by
        cases q with
        | nil => rfl
        | cons y ys => simp at this
      exact ⟨e, by rw [hq]; rfl⟩
  | L :: ls, off, rest, q, x, h, hx => by
    unfold itemsOf at h
    cases q with
    | nil =>
      have := (List.cons_prefix_cons.1 h).1
      rw [this] at hx
      exact absurd rfl hx
    | cons y ys =>
      obtain ⟨e1, e2⟩ := List.cons_prefix_cons.1 h
      obtain ⟨h1, h2⟩ := items_stop b ls _ rest ys x e2 hx
      exact ⟨h1, by rw [List.map_cons, h2, e1]⟩
/-- What is given lies in the bytes. -/
theorem items_bys {B : Nat} {W : World} (b : Nat) : ∀ (ls : List (List Int)) (off : Nat) (rest : List Int) (xs : List Int) (c : Nat), Scans xs ls rest → Bys8 B W (.slice (some ⟨b, off, none⟩) xs.length c) xs → ∀ x ∈ itemsOf b off ls rest, x.why = 0 → (∃ a, x.v = .slice a x.L.length x.L.length) ∧ Bys8 B W x.v x.L ∧ RecL x.L
  | [], off, rest, xs, c, h, hx, x, hm, hw => by
    unfold itemsOf at hm
    by_cases e : rest = []
    · rw [if_pos e] at hm; cases hm
    · rw [if_neg e] at hm
      obtain rfl := List.mem_singleton.1 hm
      rcases h.tail with k | k
      · exact absurd k e
      · exact absurd hw k
  | L :: ls, off, rest, xs, c, h, hx, x, hm, hw => by
    obtain ⟨h1, h2, h3, h4, h5⟩ := scans_tail h
    unfold itemsOf at hm
    rcases List.mem_cons.1 hm with rfl | hm
    · refine ⟨⟨_, rfl⟩, ?_, h3⟩
      have := rec_bys hx h1 (recOf xs).length
      rw [h2] at this
      exact this
    · by_cases hlt : 6 + L.length < xs.length
      · have hd := hx.drop (6 + L.length) hlt (c - (6 + L.length))
        refine items_bys b ls (off + (6 + L.length)) rest _ (c - (6 + L.length)) h4 ?_ x hm hw
        rw [List.length_drop]
        exact hd
      · rw [List.drop_of_length_le (by omega)] at h4
        obtain ⟨rfl, rfl⟩ := scans_nil h4
        simp [itemsOf] at hm
theorem boxv_of {w : World} {a : Option Addr} {n c : Nat} {xs : List Int} (h : Bys8 w.heap.size w (.slice a n c) xs) (hc : n ≤ c) : ∃ b off, (b < w.heap.size ∨ b = w.heap.size + 3 ∧ xs = []) ∧ BoxV b off (.slice a n c) xs ∧ (xs ≠ [] → a = some ⟨b, off, none⟩ ∧ n = xs.length) := by
  rcases h.2 with ⟨e, a', c', e2⟩ | ⟨b, off, c', e, hb, _⟩
  · cases e2
    exact ⟨w.heap.size + 3, 0, .inr ⟨rfl, e⟩, .inl ⟨e, _, _, rfl⟩, fun q => absurd e q⟩
  · cases e
    refine ⟨b, off, .inl hb, ?_, fun _ => ⟨rfl, rfl⟩⟩
    by_cases e : xs = []
    · exact .inl ⟨e, _, _, by rw [e]; rfl⟩
    · exact .inr ⟨e, c, rfl, hc⟩
theorem at_steady (G : Nat → Prop) {T : TypeId} {b : Nat} {cs : Array Value} (h : ¬ G b) : SteadyG G (fun W => W.heap[b]? = some (.cells cs T (0, 0))) := steadyG_block G b _ h
set_option maxRecDepth 100000 in
set_option maxHeartbeats 4000000 in
theorem why_any (a : Option Addr) (n c : Nat) (xs : List Int) (ls : List (List Int)) (rest : List Int) (w : World) (h : Bys8 w.heap.size w (.slice a n c) xs) (hc : n ≤ c) (hs : Scans xs ls rest) (hl : xs.length ≤ 1000000) :
    Calls Try.prog 14 #[.slice a n c] w fun e w' => e = .returned (.int .i64 (tailWhy rest : Nat)) ∧ Below w.heap.size w w' := by
  obtain ⟨b, off, hb, hv, _⟩ := boxv_of h hc
  have s1 : (w.alloc (.cells #[.int .i64 0] 3)).heap.size = w.heap.size + 1 := World.size_alloc _ _
  obtain ⟨X, hX⟩ : ∃ X, X = (w.alloc (.cells #[.int .i64 0] 3)).alloc (.cells #[.slice a n c] 23) := ⟨_, rfl⟩
  have sX : X.heap.size = w.heap.size + 2 := by rw [hX, World.size_alloc, s1]
  have hBX : Below w.heap.size w X := by rw [hX]; exact ((Below.refl _ w).alloc (Nat.le_refl _) _).alloc (by rw [s1]; omega) _
  have y0 : X.heap[w.heap.size]? = some (.cells #[.int .i64 0] 3 (0, 0)) := by rw [hX]; exact (Below.heap_alloc _ _ _ (by rw [s1]; omega)).trans (World.alloc_heap_new w _)
  have y1 : X.heap[w.heap.size + 1]? = some (.cells #[.slice a n c] 23 (0, 0)) := by
    rw [hX]; have := World.alloc_heap_new (w.alloc (.cells #[.int .i64 0] 3)) (.cells #[.slice a n c] 23); rwa [s1] at this
  have HAP := Lib.hid (framesOf_in (6 - 1) a n c (w.alloc (.cells #[.int .i64 0] 3)))
  have HXX := Lib.hid hX
  have HX := Lib.hid (And.intro sX (And.intro hBX (And.intro y0 y1)))
  have HQ := Lib.hid (And.intro hb (And.intro hv (And.intro hs (And.intro hl h))))
  clear h hc hs hl hb hv s1 sX hBX y0 y1 hX
  refine (callsIn_wide (n := 6)).1 ?_
  refine callsIn_of_wp_marks Try.func14 rfl trivial ?_ rfl
  simp only [Try.ntmps14, List.size_toArray, List.length_cons, List.length_nil, Nat.reduceAdd, Nat.reduceSub, Array.replicate_succ, Array.replicate_zero, List.push_toArray, List.append_toArray, List.nil_append, List.cons_append]
  gi_wp2_with fail
  refine ⟨trivial, ?_⟩
  refine HAP.out.mono ?_
  rintro e w' ⟨rfl, hw⟩
  obtain rfl : X = w' := HXX.out.trans hw.symm
  clear hw HXX HAP
  rw [World.size_alloc]
  gi_wp2_with fail
  obtain ⟨sX, hBX, y0, y1⟩ := HX.out
  obtain ⟨hb, hv, hs, hl, h⟩ := HQ.out
  refine wpIn_rangeFunc_brk (gf := 27) (lb := #[.pointer (some ⟨w.heap.size + 1, 0, none⟩)]) rfl (enters_of Try.func27 (by kernel_rfl) rfl)
    (itemsOf b off ls rest) encI (w.heap.size + 1) (by omega) (fun j => j = w.heap.size) 0
    (frames_seq (6 - 1) (by omega) (w.heap.size + 1) b off (by omega) _ xs ls rest hs hl hv _ (fun j hj => ⟨by omega, by omega⟩) X y1 ((h.below hBX).mono (by omega))) (fun _ => rfl) (fun j hj => by omega)
    (fun pre W => W.heap[w.heap.size]? = some (.cells #[.int .i64 (lastWhy pre : Nat)] 3 (0, 0)) ∧ Below w.heap.size w W)
    (fun pre W => False)
    (fun pre => SteadyG.and (steadyG_block _ _ _ (fun e => by omega)) (steadyG_below _ _ _ (fun r e => by omega) (by omega)))
    (fun pre => steadyG_pure _ _)
    ⟨y0, hBX⟩
    (fun pre x a₁ W => a₁ = { tmps := #[.slice a n c, undef, .int .i64 0, .pointer (some ⟨w.heap.size, 0, none⟩), undef, .int .i64 (x.why : Nat), .slice a n c, .func (.func 27) #[] #[.pointer (some ⟨w.heap.size + 1, 0, none⟩)], x.v, .int .i64 (x.why : Nat), undef, undef], defers := [] })
    (fun pre x a₁ X' Y row hs hg hr => hs)
    ?assign ?body ?done ?stop
  case assign =>
    intro l pre x W K hsz hpre hI hK
    unfold encI
    gi_wp2
    exact hK _ _ (Only.refl _ _ _) hI rfl
  case body =>
    rintro l pre x a₁ W hsz hpre ⟨z0, hB⟩ rfl
    have f0 := frozen_of_row W w.heap.size 0 _ _ z0
    have c0 : W.cell? ⟨w.heap.size, 0, none⟩ = some (.int .i64 (lastWhy pre : Nat)) := cell_of_row _ w.heap.size 0 _ _ _ z0
    have hset := heap_setCell_same W w.heap.size 0 _ _ (.int .i64 (x.why : Nat)) z0
    have HQ := Lib.hid (show brkPost (X.heap.size + 2) (fun j => j = w.heap.size) 0 (fun W => W.heap[w.heap.size]? = some (.cells #[.int .i64 (lastWhy (pre ++ [x]) : Nat)] 3 (0, 0)) ∧ Below w.heap.size w W) (fun _ => False) W .normal { tmps := #[], defers := [] } (W.setCell ⟨w.heap.size, 0, none⟩ (.int .i64 (x.why : Nat))) from
      ⟨(Only.refl (X.heap.size + 2) (fun j => j = w.heap.size) W).setCell ⟨w.heap.size, 0, none⟩ rfl _, by rw [lastWhy_snoc]; exact hset, hB.setCell (p := ⟨w.heap.size, 0, none⟩) (Nat.le_refl _) _⟩)
    clear hset z0 hB hpre hsz sX hBX y0 y1 hb hv hs hl h
    gi_wp2
    exact HQ.out
  case done =>
    rintro D W hD ⟨z0, hB⟩ hK
    have c0 : W.cell? ⟨w.heap.size, 0, none⟩ = some (.int .i64 (lastWhy (itemsOf b off ls rest) : Nat)) := cell_of_row _ w.heap.size 0 _ _ _ z0
    rw [lastWhy_items] at c0
    have HK := Lib.hid (And.intro hK (And.intro hB hD))
    clear z0 hB hK hD sX hBX y0 y1 hb hv hs hl h
    gi_wp2
    refine ⟨by simp, .inl ⟨_, _, rfl, run_takeDeferred HK.out.1, ?_⟩⟩
    exact ⟨_, results_tmp rfl _ _ _, rfl, HK.out.2.1.trans (belowK_b (w := w) (Nat.le_refl _) _ D _ _ (by have := HK.out.2.2; have := HX.out.1; omega) HK.out.1 rfl rfl)⟩
  case stop => exact fun D pre W _ _ h _ => h.elim
end Go.Proofs.Ytmhgphbafiilnaa
