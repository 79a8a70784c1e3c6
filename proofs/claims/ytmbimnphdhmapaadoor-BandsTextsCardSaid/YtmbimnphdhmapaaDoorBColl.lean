/- slices.AppendSeq and Collect over the iterator of stretches. -/
import Derived.Test.YtmbimnphdhmapaaDoorBFind
import Derived.Maps.OwnIn
set_option linter.unusedVariables false
set_option linter.unusedSimpArgs false
namespace Go.Proofs.YtmbimnphdhmapaaDoor
open Go.RowKit Go.Shelf
attribute [local go_sem] Oper.semAt_some
def valsT (xs : List St) : List Value := xs.flatMap fun s => [.int .i64 s.b, .int .i64 s.e, .int .i64 s.d]
theorem valsT_len (xs : List St) : (valsT xs).length = xs.length * 3 := by
  induction xs with
  | nil => rfl
  | cons s xs ih => unfold valsT at ih ⊢; simp only [List.flatMap_cons, List.length_append, List.length_cons, List.length_nil, ih]; omega
theorem valsT_app (xs ys : List St) : valsT xs ++ valsT ys = valsT (xs ++ ys) := by simp [valsT]
theorem valsT_get (xs : List St) (j : Nat) (h : j < xs.length) : (valsT xs)[j * 3]? = some (.int .i64 (xs.getD j ⟨0, 0, 0⟩).b) ∧ (valsT xs)[j * 3 + 1]? = some (.int .i64 (xs.getD j ⟨0, 0, 0⟩).e) ∧ (valsT xs)[j * 3 + 2]? = some (.int .i64 (xs.getD j ⟨0, 0, 0⟩).d) := by
  induction xs generalizing j with
  | nil => simp at h
  | cons s xs ih =>
    cases j with
    | zero => simp [valsT]
    | succ j =>
      have := ih j (by simpa using h)
      rw [show (j + 1) * 3 = j * 3 + 1 + 1 + 1 by omega]
      simpa [valsT] using this
/-- The slice value v is the call's own row of just these stretches, in a block from 'base' on; or nil, and there are none. -/
def OwnT (base : Nat) (w : World) (v : Value) (xs : List St) : Prop := w.ownsRow base 71 3 v xs.length (valsT xs)
theorem OwnT.nil (base : Nat) (w : World) : OwnT base w (.slice none 0 0) [] := ⟨by simp [valsT], .inl ⟨rfl, rfl⟩⟩
theorem OwnT.form {base : Nat} {w : World} {v : Value} {xs : List St} (h : OwnT base w v xs) : ∃ a c, v = .slice a xs.length c := by
  rcases h.2 with ⟨rfl, e⟩ | ⟨g, cap, cur, rfl, _⟩
  · exact ⟨none, 0, by rw [e]⟩
  · exact ⟨_, cap, rfl⟩
theorem OwnT.row {base : Nat} {w : World} {v : Value} {xs : List St} (h : OwnT base w v xs) : ∀ k, v.ownBlock = some k → base ≤ k ∧ ∃ cs, w.heap[k]? = some (.cells cs 71 (0, 0)) := by
  intro k hk
  rcases h.2 with ⟨rfl, e⟩ | ⟨g, cap, cur, rfl, hg, hh, _⟩
  · simp [Value.ownBlock] at hk
  · simp [Value.ownBlock] at hk; subst hk; exact ⟨hg, _, hh⟩
theorem OwnT.kept {base : Nat} {w w' : World} {v : Value} {xs : List St} (h : OwnT base w v xs) (hb : ∀ k, base ≤ k → k < w.heap.size → w'.heap[k]? = w.heap[k]?) : OwnT base w' v xs := by
  refine ⟨h.1, ?_⟩
  rcases h.2 with e | ⟨g, cap, cur, rfl, hg, hh, r⟩
  · exact .inl e
  · have hlt : g < w.heap.size := (Array.getElem?_eq_some_iff.1 hh).1
    exact .inr ⟨g, cap, cur, rfl, hg, (hb g hg hlt).trans hh, r⟩
theorem OwnT.below {base B : Nat} {w w' : World} {v : Value} {xs : List St} (h : OwnT base w v xs) (hb : Below B w w') (hB : w.heap.size ≤ B) : OwnT base w' v xs := h.kept (fun k _ hk => hb.block k (by omega))
theorem OwnT.base {base B : Nat} {w : World} {v : Value} {xs : List St} (h : OwnT base w v xs) (hB : B ≤ base) : OwnT B w v xs := by
  refine ⟨h.1, ?_⟩
  rcases h.2 with e | ⟨g, cap, cur, rfl, hg, r⟩
  · exact .inl e
  · exact .inr ⟨g, cap, cur, rfl, Nat.le_trans hB hg, r⟩
theorem OwnT.cells {base n c : Nat} {a : Option Addr} {w : World} {xs : List St} (h : OwnT base w (.slice a n c) xs) : ∀ i, i < xs.length → ∃ g, a = some ⟨g, 0, none⟩ ∧ g < w.heap.size ∧ w.cell? ⟨g, i * 3, none⟩ = some (.int .i64 (xs.getD i ⟨0, 0, 0⟩).b) ∧ w.cell? ⟨g, i * 3 + 1, none⟩ = some (.int .i64 (xs.getD i ⟨0, 0, 0⟩).e) ∧ w.cell? ⟨g, i * 3 + 2, none⟩ = some (.int .i64 (xs.getD i ⟨0, 0, 0⟩).d) := by
  intro i hi
  rcases h.2 with ⟨e, e2⟩ | ⟨g, cap, cur, e, hg, hb, hn, hm, hs, ht⟩
  · omega
  · cases e
    obtain ⟨e0, e1, e2⟩ := valsT_get xs i hi
    rw [← ht, List.getElem?_take_of_lt (by omega)] at e0 e1 e2
    refine ⟨g, rfl, (Array.getElem?_eq_some_iff.1 hb).1, ?_, ?_, ?_⟩
    · simp only [World.cell?, hb]; simpa using e0
    · simp only [World.cell?, hb]; simpa using e1
    · simp only [World.cell?, hb]; simpa using e2
theorem infoT : (Tryd.prog.info? 71).map (fun i => (i.zero, i.size, i.bytes)) = some (some (.agg #[.int .i64 0, .int .i64 0, .int .i64 0]), 3, 24) := by kernel_rfl
theorem partsT : ∃ i, Tryd.prog.info? 71 = some i ∧ i.zero = some (.agg #[.int .i64 0, .int .i64 0, .int .i64 0]) ∧ i.size = 3 ∧ i.bytes = 24 := by
  have h := infoT
  cases hi : Tryd.prog.info? 71 with
  | none => rw [hi] at h; cases h
  | some i => rw [hi] at h; simp at h; exact ⟨i, rfl, h.1, h.2.1, h.2.2⟩
/-- Appending one stretch that lies in a block of its own, in a round. -/
theorem wpListIn_bappT {F : Fence} {n : Nat} {w : World} {ops : Array Oper} {rest : List Oper} {o : Oper} {a : Act} {Q : Exit → Act → World → Prop} (hgd : o.guard = none) (s x : Operand)
    (ho : o.op = .call { callee := .builtin .append, args := #[s, x], argTypes := #[69, 69] })
    (base : Nat) (v : Value) (ys : List St) (hs : a.eval s = v) (hown : OwnT base w v ys) (g : Nat) (z : St) (hx : a.eval x = .slice (some ⟨g, 0, none⟩) 1 1) (h0 : w.cell? ⟨g, 0, none⟩ = some (.int .i64 z.b)) (h1 : w.cell? ⟨g, 1, none⟩ = some (.int .i64 z.e)) (h2 : w.cell? ⟨g, 2, none⟩ = some (.int .i64 z.d))
    (hlen : ys.length ≤ 1000000) (hbase : base ≤ w.heap.size)
    (h : ∀ a' c' w', OwnT base w' (.slice a' (ys ++ [z]).length c') (ys ++ [z]) → w.grownBy w' v.ownBlock → wpListIn F n Tryd.prog ops Q rest (a.put o.dst (.slice a' (ys ++ [z]).length c')) w') : wpListIn F n Tryd.prog ops Q (o :: rest) a w := by
  obtain ⟨i, hi, hz, hsz, hby⟩ := partsT
  refine wpListIn_append_own w hgd s x _ ho base 71 i _ 3 24 Tryd.underlying69 hi hz hsz hby rfl (by decide) v ys.length (valsT ys) hs hown ⟨g, 0, none⟩ 1 1 [.int .i64 z.b, .int .i64 z.e, .int .i64 z.d] hx rfl ?_ ?_ (by unfold maxLen; omega) (by omega) hbase ?_
  · intro j u hj
    match j, hj with
    | 0, hj => simp at hj; subst hj; simpa [Addr.add] using h0
    | 1, hj => simp at hj; subst hj; simpa [Addr.add] using h1
    | 2, hj => simp at hj; subst hj; simpa [Addr.add] using h2
  · intro u hu
    simp at hu
    rcases hu with rfl | rfl | rfl <;> rfl
  · intro v' w' k2 k3 _
    have hO : OwnT base w' v' (ys ++ [z]) := by
      have e := valsT_app ys [z]
      unfold OwnT
      rw [← e, List.length_append]
      exact k2
    obtain ⟨a', c', rfl⟩ := hO.form
    exact h a' c' w' hO k3
theorem KT.grown {T : TypeId} {X Y : World} {row : Option Nat} (h : X.grownBy Y row) (hr : ∀ r, row = some r → ∃ cs T' fr, X.heap[r]? = some (.cells cs T' fr) ∧ T' ≠ T) : KT T X Y := by
  intro g cs fr e
  refine (h.block g (Array.getElem?_eq_some_iff.1 e).1 (fun q => ?_)).trans e
  obtain ⟨ds, T', gr, e2, hne⟩ := hr g q.symm
  rw [e] at e2
  cases e2
  exact hne rfl
set_option maxRecDepth 100000 in
set_option maxHeartbeats 4000000 in
theorem appendSeq_any (Bp n₀ : Nat) (a : Option Addr) (len cap : Nat) (L : Nat → Sw) (hp : PlanIs L len) (w : World) (hn0 : n₀ ≤ w.heap.size) (hbx : w.heap[Bp]? = some (.cells #[.slice a len cap] 22 (0, 0))) (hA : SwsAt n₀ w a len L) :
    Calls Tryd.prog 42 #[.slice none 0 0, .func (.func 43) #[] #[.pointer (some ⟨Bp, 0, none⟩)]] w fun e w' => (∃ v, e = .returned v ∧ OwnT w.heap.size w' v (strs L len)) ∧ Below w.heap.size w w' := by
  have hl2 := hp.2.1
  have hbl : Bp < w.heap.size := (Array.getElem?_eq_some_iff.1 hbx).1
  have xw := (Below.refl _ w).alloc (Nat.le_refl _) (.cells #[.slice none 0 0] 69)
  have xbox := heap_alloc_new w (.cells #[.slice none 0 0] 69)
  have xb := heap_old hbx (.cells #[.slice none 0 0] 69)
  have xsz : (w.alloc (.cells #[.slice none 0 0] 69)).heap.size = w.heap.size + 1 := World.size_alloc _ _
  have hA2 : SwsAt n₀ (w.alloc (.cells #[.slice none 0 0] 69)) a len L := hA.next xw hn0 (Nat.le_refl _)
  have HP := Lib.hid hp
  obtain ⟨X, hX⟩ : ∃ X, w.alloc (.cells #[.slice none 0 0] 69) = X := ⟨_, rfl⟩
  rw [hX] at xw xbox xb xsz hA2
  have HX := Lib.hid hX
  clear hX hbx hA hp
  refine (callsIn_wide (n := 4)).1 ?_
  refine callsIn_of_wp_marks Tryd.func42 rfl trivial ?_ rfl
  simp only [Tryd.ntmps42, List.size_toArray, List.length_cons, List.length_nil, Nat.reduceAdd, Nat.reduceSub, Array.replicate_succ, Array.replicate_zero, List.push_toArray, List.append_toArray, List.nil_append, List.cons_append]
  gi_wp2
  rw [HX.out]
  refine wpIn_rangeFunc_mine (gf := 43) (lb := #[.pointer (some ⟨Bp, 0, none⟩)]) rfl (enters_of Tryd.func43 (by kernel_rfl) rfl)
    (strs L len) encS (fun j => j = w.heap.size) 0 39
    (str_seq (4 - 1) (by omega) Bp n₀ a len cap L HP.out _ X (fun j hj => ⟨by omega, by omega, by omega⟩) (by omega) xb hA2) (fun _ => rfl) (fun j hj => by omega)
    (fun pre W => (∃ v, W.heap[w.heap.size]? = some (.cells #[v] 69 (0, 0)) ∧ OwnT (w.heap.size + 4) W v pre) ∧ Below w.heap.size w W)
    (fun pre W => False)
    (fun pre => Steady.and (fun X' Y row hs hg hr => let ⟨v, e1, e2⟩ := hs; ⟨v, steady_block X.heap.size (X.heap.size + 2) _ _ (by omega) X' Y row e1 hg hr, e2.kept (fun k hk hlt => hg.block k hlt (fun e => by have := hr k e.symm; omega))⟩) (steady_below _ _ _ _ (by omega) (Nat.le_refl _)))
    (fun pre => steady_pure _ _ _)
    ⟨⟨_, xbox, OwnT.nil _ _⟩, xw⟩
    (fun pre s a₁ W => ∃ Bx, X.heap.size + 3 ≤ Bx ∧ W.heap[Bx]? = some (.cells (stC s) 71 (0, 0)) ∧ a₁ = { tmps := #[.slice none 0 0, .func (.func 43) #[] #[.pointer (some ⟨Bp, 0, none⟩)], .pointer (some ⟨w.heap.size, 0, none⟩), undef, .slice none 0 0, .pointer (some ⟨Bx, 0, none⟩), .func (.func 43) #[] #[.pointer (some ⟨Bp, 0, none⟩)], stV s, undef, undef, undef, undef, undef], defers := [] })
    (fun pre s a₁ X' Y row hs hg hr => let ⟨Bx, e1, e2, e3⟩ := hs; ⟨Bx, e1, steady_block X.heap.size (X.heap.size + 2) _ _ (by omega) X' Y row e2 hg hr, e3⟩)
    ?assign ?body ?done ?stop
  case assign =>
    intro l pre s W K hsz hpre hI hK
    unfold encS
    gi_wp2
    refine hK _ _ ((Only.refl _ _ _).alloc hsz _) ((KT.refl _ _).alloc _) ⟨?_, hI.2.alloc hI.2.size _⟩ ⟨W.heap.size, hsz, heap_alloc_new W _, rfl⟩
    obtain ⟨⟨v, e1, e2⟩, _⟩ := hI
    exact ⟨v, heap_old e1 _, e2.below ((Below.refl _ W).alloc (Nat.le_refl _) _) (Nat.le_refl _)⟩
  case body =>
    rintro l pre s a₁ W hsz hpre ⟨⟨v, hv, hO⟩, hB⟩ ⟨Bx, hBx, hbx, rfl⟩
    obtain ⟨sb, se, sd⟩ := s
    obtain ⟨va, vc, rfl⟩ := hO.form
    have hpl : pre.length ≤ 1000000 := by
      have h1 := hpre.length_le
      have h2 := strs_len L len
      simp at h1
      omega
    have v0 : W.cell? ⟨w.heap.size, 0, none⟩ = some (.slice va pre.length vc) := cell_of_row _ _ 0 _ _ _ hv
    have vf := frozen_of_row W w.heap.size 0 _ _ hv
    obtain ⟨k0, k1, k2⟩ := cells3 hbx
    have hr := heap_alloc_new W (.cells #[.int .i64 sb, .int .i64 se, .int .i64 sd] 71)
    obtain ⟨r0, r1, r2⟩ := cells3 hr
    have hOa : OwnT (w.heap.size + 4) (W.alloc (.cells #[.int .i64 sb, .int .i64 se, .int .i64 sd] 71)) (.slice va pre.length vc) pre := hO.below ((Below.refl _ W).alloc (Nat.le_refl _) _) (Nat.le_refl _)
    have hva := heap_old hv (.cells #[.int .i64 sb, .int .i64 se, .int .i64 sd] 71)
    have R0 := Lib.hid r0
    have R1 := Lib.hid r1
    have R2 := Lib.hid r2
    have HOA := Lib.hid hOa
    have HVA := Lib.hid hva
    have HB := Lib.hid (hB.alloc hB.size (.cells #[.int .i64 sb, .int .i64 se, .int .i64 sd] 71))
    obtain ⟨PL, hPL⟩ : ∃ PL, PL = pre.length := ⟨_, rfl⟩
    have HPL := Lib.hid hPL
    rw [← hPL] at v0 hpl
    clear r0 r1 r2 hOa hO hva hv hbx hB hr xbox xb xw hA2 hPL
    gi_wp2_with (first
      | (gi_at_builtin; refine wpListIn_bappT rfl (.tmp 8) (.tmp 10) rfl (w.heap.size + 4) _ pre rfl (by rw [HPL.out]; exact HOA.out) W.heap.size ⟨sb, se, sd⟩ rfl R0.out R1.out R2.out (by rw [← HPL.out]; exact hpl) (by rw [World.size_alloc]; omega) ?_; intro a2 c2 W2 hO2 hG2
         have hv2 := (hG2.block w.heap.size (by rw [World.size_alloc]; omega) (fun e => by have := (HOA.out.row w.heap.size (by rw [← HPL.out]; exact e.symm)).1; omega)).trans HVA.out
         have z0 : W2.cell? ⟨w.heap.size, 0, none⟩ = _ := cell_of_row _ _ 0 _ _ _ hv2
         have zf := frozen_of_row W2 w.heap.size 0 _ _ hv2))
    have e2 : pre.length + 1 = (pre ++ [(⟨sb, se, sd⟩ : St)]).length := by simp
    obtain ⟨hO2a, hO2b⟩ : OwnT (w.heap.size + 4) W2 (.slice a2 (pre ++ [(⟨sb, se, sd⟩ : St)]).length c2) (pre ++ [⟨sb, se, sd⟩]) ∧ True := ⟨hO2, trivial⟩
    have hrow := HOA.out.row
    have hsW : W.heap.size + 1 ≤ W2.heap.size := by have := hG2.size; rwa [World.size_alloc] at this
    have hO3 := (Only.refl (X.heap.size + 3) (fun j => j = w.heap.size) W).alloc hsz (.cells #[.int .i64 sb, .int .i64 se, .int .i64 sd] 71)
    have hO4 := hO3.trans (Only.grown hG2 (by rw [World.size_alloc]; omega) (fun r e => .inl (by have := (hrow r (by rw [← HPL.out]; exact e)).1; omega)))
    have hK4 := ((KT.refl 39 W).alloc (.cells #[.int .i64 sb, .int .i64 se, .int .i64 sd] 71)).trans (KT.grown hG2 (fun r e => by
      obtain ⟨_, cs, hcs⟩ := hrow r (by rw [← HPL.out]; exact e)
      exact ⟨cs, _, _, hcs, by decide⟩))
    have hB4 := HB.out.trans ((Below.refl w.heap.size _).grown hG2 (by rw [World.size_alloc]; omega) (fun r e => by have := (hrow r (by rw [← HPL.out]; exact e)).1; omega))
    rw [e2]
    rw [xsz] at hO4
    refine ⟨hO4.setCell _ rfl _, hK4.setCell _ hv2 (by decide), ⟨_, heap_setCell_same _ w.heap.size 0 _ _ _ hv2, hO2a.kept (fun k hk _ => heap_setCell_other _ ⟨w.heap.size, 0, none⟩ k _ (by show k ≠ w.heap.size; omega))⟩, hB4.setCell (p := ⟨w.heap.size, 0, none⟩) (Nat.le_refl _) _⟩
  case done =>
    rintro D W hD ⟨⟨v, hv, hO⟩, hB⟩ hK
    have v0 : W.cell? ⟨w.heap.size, 0, none⟩ = some v := cell_of_row _ _ 0 _ _ _ hv
    have HB := Lib.hid hB
    have HK := Lib.hid hK
    have HO := Lib.hid hO
    clear hv hO hB hK xbox xb xw hA2
    gi_wp2
    refine ⟨by simp, .inl ⟨_, _, rfl, run_takeDeferred HK.out, ?_⟩⟩
    refine ⟨_, results_tmp rfl _ _ _, ⟨v, rfl, ownsRow_putObj (HO.out.base (by omega)) _ HK.out rfl⟩, HB.out.trans (belowK_b (w := w) (Nat.le_refl _) _ D _ _ (by omega) HK.out rfl rfl)⟩
  case stop =>
    rintro D pre W hD hpre hf hK
    exact hf.elim
set_option maxRecDepth 100000 in
theorem collect_any (Bp n₀ : Nat) (a : Option Addr) (len cap : Nat) (L : Nat → Sw) (hp : PlanIs L len) (w : World) (hn0 : n₀ ≤ w.heap.size) (hbx : w.heap[Bp]? = some (.cells #[.slice a len cap] 22 (0, 0))) (hA : SwsAt n₀ w a len L) :
    Calls Tryd.prog 32 #[.func (.func 43) #[] #[.pointer (some ⟨Bp, 0, none⟩)]] w fun e w' => (∃ v, e = .returned v ∧ OwnT w.heap.size w' v (strs L len)) ∧ Below w.heap.size w w' := by
  have HA := Lib.hid (appendSeq_any Bp n₀ a len cap L hp w hn0 hbx hA)
  clear hbx hA hp
  go_enter Tryd.func32, Tryd.ntmps32
  go_wp2_with (go_at_call 42; refine HA.out.mono ?_; rintro e w1 ⟨⟨v, rfl, hO⟩, hB⟩; have HO := Lib.hid hO; have HB := Lib.hid hB; clear hO hB)
  go_ret
  exact ⟨⟨v, rfl, HO.out⟩, HB.out⟩
end Go.Proofs.YtmbimnphdhmapaaDoor
