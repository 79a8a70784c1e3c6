/- The iterator stretchesOf. -/
import Derived.Test.YtmbimnphdhmapaaDoorBChk
import Derived.Test.YtmbimnphdhmapaaDoorBLoop
import Derived.LoopNIn
import Derived.LoopIn
import Derived.TacticsInMore
set_option linter.unusedVariables false
set_option linter.unusedSimpArgs false
namespace Go.Proofs.YtmbimnphdhmapaaDoor
open Go.RowKit Go.Shelf
attribute [local go_sem] Oper.semAt_some
theorem set3 {Z : World} {B : Nat} {x y z : Value} {T : TypeId} (h : Z.heap[B]? = some (.cells #[x, y, z] T (0, 0))) (a b c : Value) :
    (((Z.setCell ⟨B, 0, none⟩ a).setCell ⟨B, 1, none⟩ b).setCell ⟨B, 2, none⟩ c).heap[B]? = some (.cells #[a, b, c] T (0, 0)) :=
  heap_setCell_same _ B 2 _ _ _ (heap_setCell_same _ B 1 _ _ _ (heap_setCell_same _ B 0 _ _ _ h))
theorem set3_other {Z : World} {B C : Nat} (hne : C ≠ B) (a b c : Value) :
    (((Z.setCell ⟨B, 0, none⟩ a).setCell ⟨B, 1, none⟩ b).setCell ⟨B, 2, none⟩ c).heap[C]? = Z.heap[C]? :=
  (heap_setCell_other _ ⟨B, 2, none⟩ C _ hne).trans ((heap_setCell_other _ ⟨B, 1, none⟩ C _ hne).trans (heap_setCell_other _ ⟨B, 0, none⟩ C _ hne))
theorem set3_size {Z : World} {B : Nat} (a b c : Value) : (((Z.setCell ⟨B, 0, none⟩ a).setCell ⟨B, 1, none⟩ b).setCell ⟨B, 2, none⟩ c).heap.size = Z.heap.size := by simp
theorem set3_below {Z w : World} {B n : Nat} (h : Below n w Z) (hB : n ≤ B) (a b c : Value) :
    Below n w (((Z.setCell ⟨B, 0, none⟩ a).setCell ⟨B, 1, none⟩ b).setCell ⟨B, 2, none⟩ c) :=
  ((h.setCell (p := ⟨B, 0, none⟩) hB _).setCell (p := ⟨B, 1, none⟩) hB _).setCell (p := ⟨B, 2, none⟩) hB _
theorem set3_grown {Z : World} {B : Nat} (a b c : Value) : Z.grownBy (((Z.setCell ⟨B, 0, none⟩ a).setCell ⟨B, 1, none⟩ b).setCell ⟨B, 2, none⟩ c) (some B) :=
  ⟨rfl, rfl, rfl, by simp, fun k _ hk => set3_other (fun e => hk (by rw [e])) a b c⟩
theorem cells3 {W : World} {B : Nat} {x y z : Value} {T : TypeId} {fr : Nat × Nat} (h : W.heap[B]? = some (.cells #[x, y, z] T fr)) :
    W.cell? ⟨B, 0, none⟩ = some x ∧ W.cell? ⟨B, 1, none⟩ = some y ∧ W.cell? ⟨B, 2, none⟩ = some z :=
  ⟨cell_of_row W B 0 _ _ _ h, cell_of_row W B 1 _ _ _ h, cell_of_row W B 2 _ _ _ h⟩
theorem frozen3 {W : World} {B : Nat} {x y z : Value} {T : TypeId} (h : W.heap[B]? = some (.cells #[x, y, z] T (0, 0))) :
    W.frozen? ⟨B, 0, none⟩ = false ∧ W.frozen? ⟨B, 1, none⟩ = false ∧ W.frozen? ⟨B, 2, none⟩ = false :=
  ⟨frozen_of_row W B 0 _ _ h, frozen_of_row W B 1 _ _ h, frozen_of_row W B 2 _ _ h⟩
theorem set_grown (W : World) (b i : Nat) (v : Value) : W.grownBy (W.setCell ⟨b, i, none⟩ v) (some b) :=
  ⟨rfl, rfl, rfl, by simp, fun k _ hk => heap_setCell_other W ⟨b, i, none⟩ k v (fun e => hk (by rw [e]))⟩
theorem Steady.grow {A B : Nat} {J : World → Prop} (h : Steady A B J) {W X : World} (hJ : J W) {b : Nat} (hg : W.grownBy X (some b)) (hb : A ≤ b ∧ b ≤ B) : J X := h W X (some b) hJ hg (fun r e => by cases e; exact hb)
abbrev stC (s : St) : Array Value := #[.int .i64 s.b, .int .i64 s.e, .int .i64 s.d]
abbrev stV (s : St) : Value := .agg #[.int .i64 s.b, .int .i64 s.e, .int .i64 s.d]
def encS (s : St) : Array Value := #[.agg #[.int .i64 s.b, .int .i64 s.e, .int .i64 s.d]]
theorem SwsAt.only {B n : Nat} {S : Nat → Prop} {W X : World} {a : Option Addr} {len : Nat} {L : Nat → Sw} (h : SwsAt n W a len L) (hO : Only B S W X) (hB : n ≤ B) (hS : ∀ j, S j → n ≤ j) : SwsAt n X a len L := by
  intro i hi
  obtain ⟨b, o, e, hb, h0, h1⟩ := h i hi
  have hx : ∀ k, X.cell? ⟨b, k, none⟩ = W.cell? ⟨b, k, none⟩ := fun k => World.cell?_of_block (a := ⟨b, k, none⟩) (hO.block b (by omega) (fun q => by have := hS b q; omega))
  exact ⟨b, o, e, hb, (hx _).trans h0, (hx _).trans h1⟩
set_option maxRecDepth 100000 in
set_option maxHeartbeats 4000000 in
theorem str1_in (n : Nat) (hn : 1 ≤ n) (l Bp n₀ : Nat) (a : Option Addr) (len cap : Nat) (L : Nat → Sw) (hp : PlanIs L len) (S : Nat → Prop) (hS : ∀ j, S j → n₀ ≤ j ∧ j ≠ Bp) (W : World) (hSW : ∀ j, S j → j < W.heap.size) (hn0 : n₀ ≤ W.heap.size)
    (hbx : W.heap[Bp]? = some (.cells #[.slice a len cap] 22 (0, 0))) (hA : SwsAt n₀ W a len L)
    (J Jx : List St → World → Prop) (hJ : ∀ pre, Steady W.heap.size W.heap.size (J pre))
    (hY : ∀ pre x W1, pre ++ [x] <+: strs L len → W.heap.size < W1.heap.size → J pre W1 → YieldAt Fence.wide (n - 1) Tryd.prog l (encS x) W1 fun e W' =>
      (e = .returned (.bool true) ∧ J (pre ++ [x]) W' ∧ Only (W.heap.size + 1) S W1 W' ∧ KT 39 W1 W') ∨ (e = .returned (.bool false) ∧ Jx (pre ++ [x]) W')) (h0 : J [] W) :
    CallsIn Fence.wide n Tryd.prog 43 #[.func (.yield l) #[] #[], .pointer (some ⟨Bp, 0, none⟩)] W fun e W' => (∃ v, e = .returned v) ∧ (J (strs L len) W' ∨ ∃ pre, pre <+: strs L len ∧ Jx pre W') := by
  have hl1 := hp.1
  have hl2 := hp.2.1
  have c0 : W.cell? ⟨Bp, 0, none⟩ = some (.slice a len cap) := cell_of_row _ Bp 0 _ _ _ hbx
  obtain ⟨b, o, rfl, hc⟩ := hA.base (by omega)
  have c1 := (hc 0 (by omega)).2
  rw [Nat.zero_mul, Nat.add_zero] at c1
  obtain ⟨z, hz⟩ : ∃ z, (L 0).b = z := ⟨_, rfl⟩
  rw [hz] at c1
  have g3 : (0 : Int) < len := by omega
  obtain ⟨B, hB⟩ : ∃ B, B = W.heap.size := ⟨_, rfl⟩
  have hbl : Bp < W.heap.size := (Array.getElem?_eq_some_iff.1 hbx).1
  have hbp := heap_old hbx (.cells #[.int .i64 0, .int .i64 0, .int .i64 z] 71)
  have hnew := heap_alloc_new W (.cells #[.int .i64 0, .int .i64 0, .int .i64 z] 71)
  have c2 : (W.alloc (.cells #[.int .i64 0, .int .i64 0, .int .i64 z] 71)).cell? ⟨Bp, 0, none⟩ = some (.slice (some ⟨b, o, none⟩) len cap) := cell_of_row _ Bp 0 _ _ _ hbp
  have hO := (Only.refl B S W).alloc (Nat.le_of_eq hB) (.cells #[.int .i64 0, .int .i64 0, .int .i64 z] 71)
  have hJ0 := (hJ []).alloc h0 (.cells #[.int .i64 0, .int .i64 0, .int .i64 z] 71)
  rw [← hB] at hnew hJ hY hbl hn0 hSW
  have HA := Lib.hid hA
  have HJ := Lib.hid hJ
  have HY := Lib.hid hY
  have HS := Lib.hid hS
  have HSW := Lib.hid hSW
  have HO := Lib.hid hO
  have HNEW := Lib.hid hnew
  have HJ0 := Lib.hid hJ0
  have HZ := Lib.hid hz
  have HB := Lib.hid hB
  have HP := Lib.hid hp
  clear hA hJ hY hS hSW hO hnew hJ0 hz hc hbx hbp h0 hp hB
  refine callsIn_of_wp Tryd.func43 rfl trivial ?_ rfl
  simp only [Tryd.ntmps43, List.size_toArray, List.length_cons, List.length_nil, Nat.reduceAdd, Nat.reduceSub, Array.replicate_succ, Array.replicate_zero, List.push_toArray, List.append_toArray, List.nil_append, List.cons_append]
  gi_wp2
  rw [← HB.out]
  gi_loopw [13] (fun i wr => ∃ k : Nat, k ≤ len ∧ i = .int .i64 k ∧ J (stsOf L k) wr ∧ B < wr.heap.size ∧ Only B S W wr ∧ wr.heap[B]? = some (.cells #[.int .i64 (begOf L k), .int .i64 0, .int .i64 (bndOf L k)] 71 (0, 0))) (fun i _ => (len - intOf i).toNat)
  case atStart => exact ⟨0, Nat.zero_le _, rfl, HJ0.out, by rw [HB.out]; simp, HO.out, by rw [(st_zero L).2.1, (st_zero L).2.2, HZ.out]; exact HNEW.out⟩
  case round =>
    obtain ⟨k, hk, rfl, hJs, hBw, hOw, hnow⟩ := hrel
    clear c0 c1 c2 HJ0 HO HNEW
    have HOW := Lib.hid hOw
    have HJS := Lib.hid hJs
    clear hOw hJs
    by_cases hlt : k < len
    · have hlti : (k : Int) < len := by omega
      have hAr := HA.out.only HOW.out hn0 (fun j hj => (HS.out j hj).1)
      obtain ⟨b', o', e, hcr⟩ := hAr.base (by omega)
      cases e
      obtain ⟨c0, c1⟩ := hcr k hlt
      obtain ⟨m, hm⟩ : ∃ z, (L k).m = z := ⟨_, rfl⟩
      obtain ⟨bb, hbb⟩ : ∃ z, (L k).b = z := ⟨_, rfl⟩
      obtain ⟨nb, hnb⟩ : ∃ z, begOf L k = z := ⟨_, rfl⟩
      obtain ⟨nd, hnd⟩ : ∃ z, bndOf L k = z := ⟨_, rfl⟩
      rw [hm] at c0
      rw [hbb] at c1
      rw [hnb, hnd] at hnow
      have hw2 := heap_old hnow (.cells #[.int .i64 m, .int .i64 bb] 39)
      have hsw := heap_alloc_new wr (.cells #[.int .i64 m, .int .i64 bb] 39)
      have hO2 := HOW.out.alloc (Nat.le_of_lt hBw) (.cells #[.int .i64 m, .int .i64 bb] 39)
      have hJ2 := (HJ.out _).alloc HJS.out (.cells #[.int .i64 m, .int .i64 bb] 39)
      have hs2 : (wr.alloc (.cells #[.int .i64 m, .int .i64 bb] 39)).heap.size = wr.heap.size + 1 := World.size_alloc _ _
      obtain ⟨x0, x1, x2⟩ := cells3 hnow
      have HSW2 := Lib.hid hsw
      have HNOW := Lib.hid hnow
      have HO2 := Lib.hid hO2
      have HJ2 := Lib.hid hJ2
      have HW2 := Lib.hid hw2
      have HS2 := Lib.hid hs2
      have HM := Lib.hid hm
      have HBB := Lib.hid hbb
      have HNB := Lib.hid hnb
      have HND := Lib.hid hnd
      clear hcr hAr hnow hw2 hm hbb hnb hnd hJ2 hO2 hs2 hsw
      by_cases hsame : bb = nd
      · have q1 : (bb == nd) = true := by simp [hsame]
        have hst := st_same (L := L) (k := k) (by rw [HBB.out, HND.out]; exact hsame)
        have HST := Lib.hid hst
        clear hsame hst
        gi_wp2
        go_roundw
        case rel => exact ⟨k + 1, by omega, by go_num, by rw [HST.out.1]; exact HJ2.out, by rw [HS2.out]; omega, HO2.out, by rw [HST.out.2.1, HST.out.2.2, HNB.out, HND.out]; exact HW2.out⟩
        case measure => first | (simp [intOf]; done) | (simp [intOf]; omega)
      · have q1 : (bb == nd) = false := by simp [hsame]
        have hst := st_new (L := L) (k := k) (by rw [HBB.out, HND.out]; exact hsame)
        rw [HM.out, HBB.out, HNB.out, HND.out] at hst
        have hpre : stsOf L k ++ [⟨nb, m, nd⟩] <+: strs L len := by rw [← hst.1]; exact sts_strs L (by omega)
        have hf1 := frozen_of_row _ B 1 _ _ HNOW.out
        have hset0 : (wr.setCell ⟨B, 1, none⟩ (.int .i64 m)).heap[B]? = some (.cells #[.int .i64 nb, .int .i64 m, .int .i64 nd] 71 (0, 0)) := heap_setCell_same wr B 1 _ _ _ HNOW.out
        obtain ⟨d0, d1, d2⟩ := cells3 hset0
        clear hset0
        have hset : ((wr.setCell ⟨B, 1, none⟩ (.int .i64 m)).alloc (.cells #[.int .i64 m, .int .i64 bb] 39)).heap[B]? = some (.cells #[.int .i64 nb, .int .i64 m, .int .i64 nd] 71 (0, 0)) := heap_old (heap_setCell_same wr B 1 _ _ _ HNOW.out) _
        have hJ3 : J (stsOf L k) ((wr.setCell ⟨B, 1, none⟩ (.int .i64 m)).alloc (.cells #[.int .i64 m, .int .i64 bb] 39)) := (HJ.out _).alloc ((HJ.out _).grow HJS.out (set_grown _ B 1 _) ⟨Nat.le_refl _, Nat.le_refl _⟩) _
        have hsz3 : B < ((wr.setCell ⟨B, 1, none⟩ (.int .i64 m)).alloc (.cells #[.int .i64 m, .int .i64 bb] 39)).heap.size := by rw [World.size_alloc, World.size_setCell]; omega
        have hsw3 : ((wr.setCell ⟨B, 1, none⟩ (.int .i64 m)).alloc (.cells #[.int .i64 m, .int .i64 bb] 39)).heap[wr.heap.size]? = some (.cells #[.int .i64 m, .int .i64 bb] 39 (0, 0)) := by
          have := heap_alloc_new (wr.setCell ⟨B, 1, none⟩ (.int .i64 m)) (.cells #[.int .i64 m, .int .i64 bb] 39)
          rwa [World.size_setCell] at this
        have hO3 : Only B S W ((wr.setCell ⟨B, 1, none⟩ (.int .i64 m)).alloc (.cells #[.int .i64 m, .int .i64 bb] 39)) := (HOW.out.trans ⟨by simp, fun q hq _ => heap_setCell_other _ ⟨B, 1, none⟩ q _ (by show q ≠ B; omega)⟩).alloc (by rw [World.size_setCell]; omega) _
        obtain ⟨fn, tmps, assign, body, hyy, hR⟩ := HY.out (stsOf L k) ⟨nb, m, nd⟩ _ hpre hsz3 hJ3
        unfold encS at hyy
        have HR := Lib.hid hR
        have HSET := Lib.hid hset
        have HSZ3 := Lib.hid hsz3
        have HSW3 := Lib.hid hsw3
        have HO3 := Lib.hid hO3
        have HST := Lib.hid hst
        have HPRE := Lib.hid hpre
        clear hR hset hsz3 hsw3 hO3 hst hpre hJ3 hsame
        gi_wp2
        refine HR.out.mono ?_
        rintro e W6 (⟨rfl, hJ6, hO6, hK6⟩ | ⟨rfl, hJx6⟩)
        · have hs6 := hO6.size
          have hnow6 := (hO6.block B (by omega) (fun q => by have := HSW.out B q; omega)).trans HSET.out
          have hsw6 := hK6 _ _ _ HSW3.out
          have e0 : W6.cell? ⟨wr.heap.size, 0, none⟩ = some (.int .i64 m) := cell_of_row _ _ 0 _ _ _ hsw6
          have e1 : W6.cell? ⟨wr.heap.size, 1, none⟩ = some (.int .i64 bb) := cell_of_row _ _ 1 _ _ _ hsw6
          obtain ⟨f0, f1, f2⟩ := frozen3 hnow6
          obtain ⟨k0, k1, k2⟩ := cells3 hnow6
          have HN6 := Lib.hid hnow6
          have HJ6 := Lib.hid hJ6
          have HO6 := Lib.hid (HO3.out.trans (hO6.mono (Nat.le_succ _)))
          have hB6 := HSZ3.out
          clear hnow6 hsw6 hJ6 hO6 hK6 d0 d1 d2 hf1 c0 c1 x0 x1 x2 hyy HSET HSW3 HO3 HSZ3 HR HSW2 HW2 HO2 HJ2
          gi_wp2
          go_roundw
          case rel =>
            refine ⟨k + 1, by omega, by go_num, ?_, ?_, ?_, ?_⟩
            · rw [HST.out.1]; exact (HJ.out _).grow HJ6.out (set3_grown _ _ _) ⟨Nat.le_refl _, Nat.le_refl _⟩
            · rw [set3_size]; omega
            · exact HO6.out.trans ⟨by simp, fun q hq _ => set3_other (by omega) _ _ _⟩
            · rw [HST.out.2.1, HST.out.2.2]; exact set3 HN6.out _ _ _
          case measure => first | (simp [intOf]; done) | (simp [intOf]; omega)
        · gi_wp2
          refine bodyPost_ret (results_none rfl _ _ _) rfl ?_
          exact ⟨⟨_, rfl⟩, .inr ⟨_, HPRE.out, hJx6⟩⟩
    · have hke : k = len := by omega
      subst hke
      have hnl : ¬ ((k : Int) < k) := by omega
      obtain ⟨nb, hnb⟩ : ∃ z, begOf L k = z := ⟨_, rfl⟩
      obtain ⟨nd, hnd⟩ : ∃ z, bndOf L k = z := ⟨_, rfl⟩
      have hst : stsOf L k ++ [⟨nb, 1440, nd⟩] = strs L k := by rw [← hnb, ← hnd]; rfl
      have hpre : stsOf L k ++ [⟨nb, 1440, nd⟩] <+: strs L k := by rw [hst]; exact List.prefix_refl _
      rw [hnb, hnd] at hnow
      obtain ⟨x0, x1, x2⟩ := cells3 hnow
      have hf1 := frozen_of_row _ B 1 _ _ hnow
      have hset : (wr.setCell ⟨B, 1, none⟩ (.int .i64 1440)).heap[B]? = some (.cells #[.int .i64 nb, .int .i64 1440, .int .i64 nd] 71 (0, 0)) := heap_setCell_same wr B 1 _ _ _ hnow
      obtain ⟨d0, d1, d2⟩ := cells3 hset
      have hJ3 : J (stsOf L k) (wr.setCell ⟨B, 1, none⟩ (.int .i64 1440)) := (HJ.out _).grow HJS.out (set_grown _ B 1 _) ⟨Nat.le_refl _, Nat.le_refl _⟩
      have hsz3 : B < (wr.setCell ⟨B, 1, none⟩ (.int .i64 1440)).heap.size := by rw [World.size_setCell]; exact hBw
      obtain ⟨fn, tmps, assign, body, hyy, hR⟩ := HY.out (stsOf L k) ⟨nb, 1440, nd⟩ _ hpre hsz3 hJ3
      unfold encS at hyy
      have HR := Lib.hid hR
      have HST := Lib.hid hst
      clear hR hset hst hpre hJ3 hnb hnd hnow
      gi_wp2
      refine HR.out.mono ?_
      rintro e W6 (⟨rfl, hJ6, hO6, hK6⟩ | ⟨rfl, hJx6⟩)
      · clear hO6 hK6 x0 x1 x2 d0 d1 d2 hf1
        rw [HST.out] at hJ6
        have HJ6 := Lib.hid hJ6
        clear hJ6
        gi_wp2
        go_end0
        exact ⟨⟨_, rfl⟩, .inl HJ6.out⟩
      · clear x0 x1 x2 d0 d1 d2 hf1
        rw [HST.out] at hJx6
        have HJ6 := Lib.hid hJx6
        clear hJx6
        gi_wp2
        go_end0
        exact ⟨⟨_, rfl⟩, .inr ⟨_, List.prefix_refl _, HJ6.out⟩⟩
theorem stretchesOf_in (n : Nat) (a : Option Addr) (len cap : Nat) (w : World) :
    CallsIn Fence.wide n Tryd.prog 33 #[.slice a len cap] w fun e w' => e = .returned (.func (.func 43) #[] #[.pointer (some ⟨w.heap.size, 0, none⟩)]) ∧ w' = w.alloc (.cells #[.slice a len cap] 22) := by
  refine callsIn_of_wp Tryd.func33 rfl trivial ?_ rfl
  simp only [Tryd.ntmps33, List.size_toArray, List.length_cons, List.length_nil, Nat.reduceAdd, Nat.reduceSub, Array.replicate_succ, Array.replicate_zero, List.push_toArray, List.append_toArray, List.nil_append, List.cons_append]
  gi_wp2
  go_ret
  exact ⟨rfl, rfl⟩
theorem str_seq (n : Nat) (hn : 1 ≤ n) (Bp n₀ : Nat) (a : Option Addr) (len cap : Nat) (L : Nat → Sw) (hp : PlanIs L len) (S : Nat → Prop) (w : World) (hS : ∀ j, S j → n₀ ≤ j ∧ j ≠ Bp ∧ j < w.heap.size) (hn0 : n₀ ≤ w.heap.size)
    (hbx : w.heap[Bp]? = some (.cells #[.slice a len cap] 22 (0, 0))) (hA : SwsAt n₀ w a len L) :
    SeqOwn 39 n Tryd.prog 43 #[.pointer (some ⟨Bp, 0, none⟩)] encS S (strs L len) w := by
  intro l J Jx W hW hJ hY h0
  exact str1_in n hn l Bp n₀ a len cap L hp S (fun j hj => ⟨(hS j hj).1, (hS j hj).2.1⟩) W (fun j hj => Nat.lt_of_lt_of_le (hS j hj).2.2 hW.size) (Nat.le_trans hn0 hW.size) ((hW.block Bp (Array.getElem?_eq_some_iff.1 hbx).1).trans hbx) (hA.next hW hn0 (Nat.le_refl _)) J Jx hJ hY h0
end Go.Proofs.YtmbimnphdhmapaaDoor
