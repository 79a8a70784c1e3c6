/- Slices of tables; a row of which one version gets other prices; the place of a version. -/
import Derived.Test.YthlpigffjbhmoaaDoorVConcat
set_option linter.unusedVariables false
set_option linter.unusedSimpArgs false
namespace Go.Proofs.YthlpigffjbhmoaaDoor
open Go.RowKit Go.Shelf
theorem elemV : Tryd.prog.elem 22 = 42 := by kernel_rfl
theorem sizeV (W : World) : (sizeOf 42).run Tryd.prog W = .ok 2 W := by
  obtain ⟨i, hi, _, hs, _⟩ := partsE
  simp [sizeOf, typeInfo, hi, hs]
theorem slice_to (W : World) (a : Option Addr) (len c p : Nat) (hp : p ≤ c) : (Instr.slice 22 (.slice a len c) none (some (.int .i64 (p : Int))) none).run Tryd.prog W = .ok (.slice a p c) W := by
  rw [run_slice_h W 22 a len c (by rw [elemV]; exact Tryd.underlying22) .i64 p (by omega) (by omega), elemV, sizeV]
  simp [Result.andThen, sliced]
  intro _
  cases a <;> simp [Addr.add]
theorem RwsAt.take {B : Nat} {W : World} {a : Option Addr} {xs : List Rw} (h : RwsAt B W a xs) (k : Nat) : RwsAt B W a (xs.take k) := fun i v hi => h i v (by
  rw [List.getElem?_take] at hi
  split at hi
  · exact hi
  · cases hi)
theorem RwsAt.nil {B : Nat} {W : World} {a : Option Addr} : RwsAt B W a [] := fun i v hi => by simp at hi
theorem slice_from {B : Nat} {W : World} {a : Option Addr} {n c : Nat} {xs : List Rw} (h : RwsAt B W a xs) (hn : xs.length = n) (hnc : n ≤ c) (p : Nat) (hp : p ≤ n) :
    ∃ A c', (∀ X : World, (Instr.slice 22 (.slice a n c) (some (.int .i64 (p : Int))) none none).run Tryd.prog X = .ok (.slice A (n - p) c') X) ∧ RwsAt B W A (xs.drop p) := by
  have hr : ∀ X : World, (Instr.slice 22 (.slice a n c) (some (.int .i64 (p : Int))) none none).run Tryd.prog X = .ok (sliced a p n c 2) X := fun X => by
    rw [run_slice_l X 22 a n c (by rw [elemV]; exact Tryd.underlying22) .i64 p (by omega) (by omega), elemV, sizeV]
    simp [Result.andThen]
  by_cases hpn : p = n
  · subst hpn
    rw [List.drop_of_length_le (by omega)]
    exact ⟨(if c = p then a else a.map (·.add (p * 2))), c - p, hr, RwsAt.nil⟩
  · obtain ⟨b, o, rfl, _⟩ := h 0 _ (List.getElem?_eq_getElem (by omega))
    refine ⟨some ⟨b, o + p * 2, none⟩, c - p, fun X => ?_, fun i r hi => ?_⟩
    · rw [hr X]
      unfold sliced
      rw [if_neg (show ¬ c = p by omega)]
      simp [Addr.add_mid]
    · rw [List.getElem?_drop] at hi
      obtain ⟨b', o', e, hb, c0, c1⟩ := h (p + i) r hi
      cases e
      refine ⟨b, o + p * 2, rfl, hb, ?_, ?_⟩
      · rw [show o + p * 2 + i * 2 = o + (p + i) * 2 by omega]; exact c0
      · rw [show o + p * 2 + i * 2 + 1 = o + (p + i) * 2 + 1 by omega]; exact c1
theorem valsE_set : ∀ (xs : List Rw) (k : Nat) (r : Rw) (a : Option Addr) (n c : Nat), xs[k]? = some r → (valsE xs).set (k * 2 + 1) (.slice a n c) = valsE (xs.set k ⟨r.f, a, n, c⟩)
  | [], k, r, a, n, c, h => by simp at h
  | x :: xs, 0, r, a, n, c, h => by simp at h; subst h; simp [valsE]
  | x :: xs, k + 1, r, a, n, c, h => by
    have := valsE_set xs k r a n c (by simpa using h)
    rw [show (k + 1) * 2 + 1 = k * 2 + 1 + 1 + 1 by omega]
    show (.int .i64 x.f :: .slice x.a x.n x.c :: valsE xs).set (k * 2 + 1 + 1 + 1) _ = .int .i64 x.f :: .slice x.a x.n x.c :: valsE (xs.set k _)
    rw [List.set_cons_succ, List.set_cons_succ, this]
/-- One version of a row gets other prices. -/
theorem OwnE.set {base n c g k m' c' : Nat} {w : World} {xs : List Rw} {r : Rw} {a' : Option Addr} (h : OwnE base w (.slice (some ⟨g, 0, none⟩) n c) xs) (hr : xs[k]? = some r) :
    OwnE base (w.setCell ⟨g, k * 2 + 1, none⟩ (.slice a' m' c')) (.slice (some ⟨g, 0, none⟩) n c) (xs.set k ⟨r.f, a', m', c'⟩) := by
  have hk := (List.getElem?_eq_some_iff.1 hr).1
  rcases h.2 with ⟨e, e2⟩ | ⟨g', cap, cur, e, hg, hb, hn, hm, hs, ht⟩
  · omega
  · cases e
    have hn0 : (xs.set k ⟨r.f, a', m', c'⟩).length = xs.length := by simp
    refine ⟨by rw [valsE_len], .inr ⟨g, c, cur.setIfInBounds (k * 2 + 1) (.slice a' m' c'), by rw [hn0], hg, heap_setCell_same w g _ _ _ _ hb, by rw [hn0]; exact hn, hm, by simp [hs], ?_⟩⟩
    rw [hn0, Array.toList_setIfInBounds, List.take_set, ht, valsE_set xs k r a' m' c' hr]
theorem OwnE.cell {base n c g k : Nat} {w : World} {xs : List Rw} {r : Rw} (h : OwnE base w (.slice (some ⟨g, 0, none⟩) n c) xs) (hr : xs[k]? = some r) :
    w.cell? ⟨g, k * 2, none⟩ = some (.int .i64 r.f) ∧ w.cell? ⟨g, k * 2 + 1, none⟩ = some (.slice r.a r.n r.c) ∧ w.frozen? ⟨g, k * 2 + 1, none⟩ = false := by
  have hk := (List.getElem?_eq_some_iff.1 hr).1
  rcases h.2 with ⟨e, e2⟩ | ⟨g', cap, cur, e, hg, hb, hn, hm, hs, ht⟩
  · omega
  · cases e
    obtain ⟨e0, e1⟩ := valsE_get hr
    rw [← ht, List.getElem?_take_of_lt (by omega)] at e0 e1
    refine ⟨?_, ?_, frozen_of_row _ _ _ _ _ hb⟩
    · rw [cell_of_row _ _ _ _ _ _ hb]; simpa using e0
    · rw [cell_of_row _ _ _ _ _ _ hb]; simpa using e1
/-- The rows go on being the versions. -/
theorem RwIs.set {W X : World} {g k m' c' : Nat} {xs : List Rw} {l : List Ve} {r : Rw} {v : Ve} {a' : Option Addr} (h : RwIs W g xs l) (hr : xs[k]? = some r) (hv : l[k]? = some v) (hs : W.heap.size ≤ X.heap.size) (hk : ∀ q, q < W.heap.size → q ≠ g → X.heap[q]? = W.heap[q]?)
    (hp : PrOf X g ⟨r.f, a', m', c'⟩ v) : RwIs X g (xs.set k ⟨r.f, a', m', c'⟩) l := by
  have h' := h.kept hs hk
  refine ⟨by rw [List.length_set]; exact h.1, fun i r' v' hr' hv' => ?_⟩
  by_cases e : i = k
  · subst e
    rw [List.getElem?_set_self (List.getElem?_eq_some_iff.1 hr).1] at hr'
    cases hr'
    rw [hv] at hv'
    cases hv'
    exact hp
  · rw [List.getElem?_set_ne (fun q => e q.symm)] at hr'
    exact h'.2 i r' v' hr' hv'
theorem OwnE.caps {base n c : Nat} {a : Option Addr} {w : World} {xs : List Rw} (h : OwnE base w (.slice a n c) xs) (hn : xs.length = n) : n ≤ c ∧ c ≤ maxLen := by
  obtain ⟨a', c', e, h1, h2⟩ := h.form
  cases e
  exact ⟨h1, h2⟩
theorem OwnP.caps {base n c : Nat} {a : Option Addr} {w : World} {xs : List Int} (h : OwnP base w (.slice a n c) xs) (hn : xs.length = n) : n ≤ c ∧ c ≤ maxLen := by
  obtain ⟨a', c', e, h1, h2⟩ := h.form
  cases e
  exact ⟨h1, h2⟩
theorem OwnE.base {base B : Nat} {w : World} {v : Value} {xs : List Rw} (h : OwnE base w v xs) (hB : B ≤ base) : OwnE B w v xs := by
  refine ⟨h.1, ?_⟩
  rcases h.2 with e | ⟨g, cap, cur, rfl, hg, r⟩
  · exact .inl e
  · exact .inr ⟨g, cap, cur, rfl, Nat.le_trans hB hg, r⟩
theorem RwIs.take {W : World} {g : Nat} {xs : List Rw} {l : List Ve} (h : RwIs W g xs l) (k : Nat) : RwIs W g (xs.take k) (l.take k) := by
  refine ⟨by rw [List.length_take, List.length_take, h.1], fun i r v hr hv => ?_⟩
  rw [List.getElem?_take] at hr hv
  split at hr
  · rename_i q
    rw [if_pos q] at hv
    exact h.2 i r v hr hv
  · cases hr
theorem RwIs.drop {W : World} {g : Nat} {xs : List Rw} {l : List Ve} (h : RwIs W g xs l) (k : Nat) : RwIs W g (xs.drop k) (l.drop k) := by
  refine ⟨by rw [List.length_drop, List.length_drop, h.1], fun i r v hr hv => ?_⟩
  rw [List.getElem?_drop] at hr hv
  exact h.2 (k + i) r v hr hv
/-- Three pieces, the one in the midst in a block of its own. -/
theorem pcs3 {Bd : Nat} {Y : World} {s1 s2 m pc n1 n2 c1 c2 : Nat} {f : Int} {aa pa A : Option Addr} {xs ys : List Rw} {T U : TypeId} {w0 : Nat} (h1 : s2 < Bd) (h2 : s1 < Bd) (h3 : w0 ≤ Bd)
    (hr2 : Y.heap[s2]? = some (.cells #[.slice aa n1 c1, .slice (some ⟨s1, 0, none⟩) 1 1, .slice A n2 c2] T (0, 0))) (hr1 : Y.heap[s1]? = some (.cells #[.int .i64 f, .slice pa m pc] U (0, 0)))
    (hx : xs.length = n1) (hy : ys.length = n2) (hX : RwsAt w0 Y aa xs) (hY : RwsAt w0 Y A ys) : PcsAt Bd Y.drew (some ⟨s2, 0, none⟩) [⟨aa, c1, xs⟩, ⟨some ⟨s1, 0, none⟩, 1, [⟨f, pa, m, pc⟩]⟩, ⟨A, c2, ys⟩] := by
  intro j p hj
  refine ⟨s2, 0, rfl, h1, ?_⟩
  rw [Nat.zero_add]
  match j, hj with
  | 0, hj =>
    simp at hj; subst hj
    exact ⟨by rw [hx]; exact cell_of_row Y _ 0 _ _ _ hr2, (show RwsAt Bd Y aa xs from hX.mono h3)⟩
  | 1, hj =>
    simp at hj; subst hj
    refine ⟨cell_of_row Y _ 1 _ _ _ hr2, fun i r hi => ?_⟩
    match i, hi with
    | 0, hi => simp at hi; subst hi; exact ⟨s1, 0, rfl, h2, cell_of_row Y _ 0 _ _ _ hr1, cell_of_row Y _ 1 _ _ _ hr1⟩
    | i + 1, hi => simp at hi
  | 2, hj =>
    simp at hj; subst hj
    exact ⟨by rw [hy]; exact cell_of_row Y _ 2 _ _ _ hr2, (show RwsAt Bd Y A ys from hY.mono h3)⟩
  | j + 3, hj => simp at hj
theorem withL_is {l : List Ve} (h : TabMay l) (v : Ve) : l.take (cntB l v.f) ++ v :: l.drop (cnt l v.f) = withL l v := by
  have hp := tab_pair _ l rfl h
  rw [cntB_take hp, cnt_drop hp]
  rfl
theorem withL_len {l : List Ve} (h : TabMay l) (v : Ve) : 1 ≤ (withL l v).length ∧ (withL l v).length ≤ 201 := by
  have h1 := tab_len h
  have h2 : (l.filter (fun u => decide (u.f < v.f))).length + (l.filter (fun u => decide (v.f < u.f))).length ≤ l.length := by
    rw [← List.countP_eq_length_filter, ← List.countP_eq_length_filter]
    have h3 := List.length_eq_countP_add_countP (fun u : Ve => decide (u.f < v.f)) (l := l)
    have h4 : l.countP (fun u => decide (v.f < u.f)) ≤ l.countP (fun a => decide ¬decide (a.f < v.f) = true) := List.countP_mono_left fun u _ e => by
      have := of_decide_eq_true e
      simp
      omega
    omega
  unfold withL
  simp
  omega
end Go.Proofs.YthlpigffjbhmoaaDoor
