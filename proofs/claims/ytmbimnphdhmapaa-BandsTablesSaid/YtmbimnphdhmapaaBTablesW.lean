/- The statement BandsTables, walked. -/
import Derived.Test.YtmbimnphdhmapaaBTabP
import Derived.Test.YtmbimnphdhmapaaBRef5
import Derived.Test.YtmbimnphdhmapaaBOwnV
import Derived.Test.YtmbimnphdhmapaaBRegL
set_option linter.unusedVariables false
set_option linter.unusedSimpArgs false
namespace Go.Proofs.Ytmbimnphdhmapaa
open Go.RowKit Go.Shelf
abbrev tabC (pa : Option Addr) (pl pc : Nat) (ra : Option Addr) (rl rc : Nat) : Array Value := #[.slice pa pl pc, .slice ra rl rc]
theorem cells2t {W : World} {B : Nat} {x y : Value} {T : TypeId} {fr : Nat × Nat} (h : W.heap[B]? = some (.cells #[x, y] T fr)) : W.cell? ⟨B, 0, none⟩ = some x ∧ W.cell? ⟨B, 1, none⟩ = some y := ⟨cell_of_row W B 0 _ _ _ h, cell_of_row W B 1 _ _ _ h⟩
/-- The copies of the first k plans, as the slice of them holds them. -/
def Copies (Nb : Nat → Prop) (W : World) (P : Nat → Pl) (C : Nat → Option Addr × Nat) (k : Nat) : Prop := ∀ i, i < k → ((P i).len ≤ (C i).2 ∧ (C i).2 ≤ maxLen) ∧ SwsAv Nb W (C i).1 (P i).len (P i).L
def cpV (P : Nat → Pl) (C : Nat → Option Addr × Nat) (i : Nat) : Value := .slice (C i).1 (P i).len (C i).2
/-- Appending one slice that lies in a block of its own. -/
theorem wpList_bappV {w : World} {ops : Array Oper} {rest : List Oper} {o : Oper} {a : Act} {Q : Exit → Act → World → Prop} (hgd : o.guard = none) (s x : Operand)
    (ho : o.op = .call { callee := .builtin .append, args := #[s, x], argTypes := #[42, 42] })
    (base : Nat) (v : Value) (ls : List Value) (hs : a.eval s = v) (hown : OwnV base w v ls) (g : Nat) (z : Value) (hx : a.eval x = .slice (some ⟨g, 0, none⟩) 1 1) (hz : w.cell? ⟨g, 0, none⟩ = some z) (hz1 : z.oneCell' = true)
    (N : Nat) (hN : ls.length + 1 = N) (hlen : ls.length + 1 ≤ 1000000) (hbase : base ≤ w.heap.size)
    (h : ∀ a' c' w', OwnV base w' (.slice a' N c') (ls ++ [z]) → w.grownBy w' v.ownBlock → ((Value.slice a' N c').ownBlock = v.ownBlock ∨ (Value.slice a' N c').ownBlock = some w.heap.size) → wpList Try.prog ops Q rest (a.put o.dst (.slice a' N c')) w') : wpList Try.prog ops Q (o :: rest) a w := by
  obtain ⟨i, hi, hzz, hsz, hby⟩ := partsV
  refine wpList_append_own_at w hgd s x _ ho base 23 i _ 1 24 Try.underlying42 hi hzz hsz hby rfl (by decide) v ls.length ls hs hown ⟨g, 0, none⟩ 1 1 [z] hx rfl ?_ ?_ (by unfold maxLen; omega) (by omega) hbase ?_
  · intro j u hj
    match j, hj with
    | 0, hj => simp at hj; subst hj; simpa [Addr.add] using hz
  · intro u hu
    simp at hu; rw [hu]; exact hz1
  · intro v' w' h2 h3 _ h5
    have hO : OwnV base w' v' (ls ++ [z]) := by
      unfold OwnV
      rw [List.length_append]
      exact h2
    obtain ⟨a', c', rfl⟩ := hO.form
    have e : (ls ++ [z]).length = N := by simp [hN]
    rw [e] at hO h5 ⊢
    exact h a' c' w' hO h3 h5
theorem wpList_bappU {w : World} {ops : Array Oper} {rest : List Oper} {o : Oper} {a : Act} {Q : Exit → Act → World → Prop} (hgd : o.guard = none) (s x : Operand)
    (ho : o.op = .call { callee := .builtin .append, args := #[s, x], argTypes := #[43, 43] })
    (base : Nat) (v : Value) (ls : List Ru) (hs : a.eval s = v) (hown : OwnU base w v ls) (g : Nat) (z : Ru) (hx : a.eval x = .slice (some ⟨g, 0, none⟩) 1 1) (h0 : w.cell? ⟨g, 0, none⟩ = some (.int .i64 z.s)) (h1 : w.cell? ⟨g, 1, none⟩ = some (.int .i64 z.k)) (h2 : w.cell? ⟨g, 2, none⟩ = some (.int .i64 z.p))
    (N : Nat) (hN : ls.length + 1 = N) (hlen : ls.length + 1 ≤ 1000000) (hbase : base ≤ w.heap.size)
    (h : ∀ a' c' w', OwnU base w' (.slice a' N c') (ls ++ [z]) → w.grownBy w' v.ownBlock → ((Value.slice a' N c').ownBlock = v.ownBlock ∨ (Value.slice a' N c').ownBlock = some w.heap.size) → wpList Try.prog ops Q rest (a.put o.dst (.slice a' N c')) w') : wpList Try.prog ops Q (o :: rest) a w := by
  obtain ⟨i, hi, hzz, hsz, hby⟩ := partsOwnU
  refine wpList_append_own_at w hgd s x _ ho base 47 i _ 3 24 Try.underlying43 hi hzz hsz hby rfl (by decide) v ls.length (valsR ls) hs hown ⟨g, 0, none⟩ 1 1 [.int .i64 z.s, .int .i64 z.k, .int .i64 z.p] hx rfl ?_ ?_ (by unfold maxLen; omega) (by omega) hbase ?_
  · intro j u hj
    match j, hj with
    | 0, hj => simp at hj; subst hj; simpa [Addr.add] using h0
    | 1, hj => simp at hj; subst hj; simpa [Addr.add] using h1
    | 2, hj => simp at hj; subst hj; simpa [Addr.add] using h2
  · intro u hu
    simp at hu
    rcases hu with rfl | rfl | rfl <;> rfl
  · intro v' w' k2 k3 _ k5
    have hO : OwnU base w' v' (ls ++ [z]) := by
      have e := valsR_app ls [z]
      unfold OwnU
      rw [← e, List.length_append]
      exact k2
    obtain ⟨a', c', rfl⟩ := hO.form
    have e : (ls ++ [z]).length = N := by simp [hN]
    rw [e] at hO k5 ⊢
    exact h a' c' w' hO k3 k5
theorem OwnS.cap {base n c : Nat} {a : Option Addr} {w : World} {xs : List Sw} (h : OwnS base w (.slice a n c) xs) : xs.length ≤ c ∧ c ≤ maxLen := by
  rcases h.2 with ⟨e, e2⟩ | ⟨g, cap, cur, e, hg, hb, hn, hm, _⟩
  · cases e; rw [e2]; exact ⟨Nat.le_refl _, Nat.zero_le _⟩
  · cases e; exact ⟨hn, hm⟩
theorem RusAt.fn {B : Nat} {W : World} {a : Option Addr} {n : Nat} {R R' : Nat → Ru} (h : RusAt B W a n R) (e : ∀ i, i < n → R i = R' i) : RusAt B W a n R' := fun i hi => by
  rw [← e i hi]; exact h i hi
def putC (C : Nat → Option Addr × Nat) (k : Nat) (x : Option Addr × Nat) : Nat → Option Addr × Nat := fun i => if i = k then x else C i
theorem putC_list (P : Nat → Pl) (C : Nat → Option Addr × Nat) (k : Nat) (a : Option Addr) (c : Nat) : (List.range (k + 1)).map (cpV P (putC C k (a, c))) = (List.range k).map (cpV P C) ++ [.slice a (P k).len c] := by
  rw [List.range_succ, List.map_append, List.map_cons, List.map_nil]
  congr 1
  · apply List.map_congr_left
    intro i hi
    have hne : i ≠ k := by have := List.mem_range.1 hi; omega
    simp [cpV, putC, hne]
  · simp [cpV, putC]
/-- One plan more has been copied. -/
theorem copies_step {n k vc c3 a2c pkl : Nat} {va a3 a2 : Option Addr} {wr w2 w3 : World} {P : Nat → Pl} {C : Nat → Option Addr × Nat} {T T2 : TypeId} {T0 : Array Value}
    (hO : OwnV (n + 2) wr (.slice va k vc) ((List.range k).map (cpV P C))) (hC : Copies (fun b => b ≤ n + 1 ∨ (Value.slice va k vc).ownBlock = some b) wr P C k)
    (hz : wr.heap[n]? = some (.cells T0 T (0, 0))) (hu : wr.heap[n + 1]? = some (.cells #[.slice va k vc, .slice none 0 0] T2 (0, 0)))
    (hB2 : Below wr.heap.size wr w2) (hO2 : OwnS wr.heap.size w2 (.slice a2 pkl a2c) ((List.range pkl).map (P k).L)) (hpk : (P k).len = pkl) {o : Obj}
    (hO3 : OwnV (n + 2) w3 (.slice a3 (k + 1) c3) ((List.range k).map (cpV P C) ++ [.slice a2 pkl a2c])) (hG3 : (w2.alloc o).grownBy w3 (Value.slice va k vc).ownBlock)
    (hN3 : (Value.slice a3 (k + 1) c3).ownBlock = (Value.slice va k vc).ownBlock ∨ (Value.slice a3 (k + 1) c3).ownBlock = some (w2.alloc o).heap.size) :
    w3.heap[n]? = some (.cells T0 T (0, 0)) ∧ w3.heap[n + 1]? = some (.cells #[.slice va k vc, .slice none 0 0] T2 (0, 0)) ∧ Below wr.heap.size w2 (w2.alloc o) ∧
    (∀ u : Value, OwnV (n + 2) (w3.setCell ⟨n + 1, 0, none⟩ u) (.slice a3 (k + 1) c3) ((List.range (k + 1)).map (cpV P (putC C k (a2, a2c)))) ∧
      Copies (fun b => b ≤ n + 1 ∨ (Value.slice a3 (k + 1) c3).ownBlock = some b) (w3.setCell ⟨n + 1, 0, none⟩ u) P (putC C k (a2, a2c)) (k + 1)) := by
  have hzl := (Array.getElem?_eq_some_iff.1 hz).1
  have hul := (Array.getElem?_eq_some_iff.1 hu).1
  have hs2 := hB2.size
  have hsa : (w2.alloc o).heap.size = w2.heap.size + 1 := World.size_alloc _ _
  have hrow := hO.row
  have old : ∀ j, j < wr.heap.size → (Value.slice va k vc).ownBlock ≠ some j → w3.heap[j]? = wr.heap[j]? := fun j hj hne =>
    (hG3.block j (by omega) (fun e => hne e.symm)).trans ((Below.heap_alloc w2 o j (by omega)).trans (hB2.block j hj))
  have new : ∀ j, wr.heap.size ≤ j → j < w2.heap.size → w3.heap[j]? = w2.heap[j]? := fun j hj hj2 =>
    (hG3.block j (by omega) (fun e => by have := hrow j e.symm; omega)).trans (Below.heap_alloc w2 o j hj2)
  have h3s := hG3.size
  have hown3 : ∀ b, (Value.slice a3 (k + 1) c3).ownBlock = some b → (Value.slice va k vc).ownBlock = some b ∨ b = w2.heap.size + 1 := fun b hb => by
    rcases hN3 with e | e
    · exact .inl (e ▸ hb)
    · rw [hb] at e; injection e with e; right; omega
  refine ⟨(old n hzl (fun e => by have := hrow _ e; omega)).trans hz, (old (n + 1) hul (fun e => by have := hrow _ e; omega)).trans hu, (Below.refl _ w2).alloc hs2 o, fun u => ⟨?_, ?_⟩⟩
  · rw [putC_list, hpk]
    exact hO3.kept (fun j hj => heap_setCell_other _ ⟨n + 1, 0, none⟩ j _ (by have := hO3.row j hj; show j ≠ n + 1; omega))
  · intro i hi
    have sc : ∀ j, j ≠ n + 1 → (w3.setCell ⟨n + 1, 0, none⟩ u).heap[j]? = w3.heap[j]? := fun j hj => heap_setCell_other _ ⟨n + 1, 0, none⟩ j _ hj
    by_cases hik : i = k
    · subst hik
      have he : putC C i (a2, a2c) i = (a2, a2c) := if_pos rfl
      rw [he]
      have hcap := hO2.cap
      simp only [List.length_map, List.length_range] at hcap
      refine ⟨by rw [hpk]; exact hcap, ?_⟩
      have hav := hO2.av (Nb := fun b => b < wr.heap.size) (fun j hj hlt => by omega)
      simp only [List.length_map, List.length_range] at hav
      rw [hpk]
      have hfn := hav.fn (M := (P i).L) (fun j hj => by simp [List.getD, hj])
      refine hfn.kept (by simp; omega) (fun j hj hn => ?_) (fun j hj hn => ?_)
      · rw [sc j (by omega), new j (by omega) hj]
      · rintro (q | q)
        · omega
        · rcases hown3 j q with e | e
          · have := hrow j e; omega
          · omega
    · have he : putC C k (a2, a2c) i = C i := if_neg hik
      rw [he]
      obtain ⟨h1, h2⟩ := hC i (by omega)
      refine ⟨h1, h2.kept (by simp; omega) (fun j hj hn => ?_) (fun j hj hn => ?_)⟩
      · rw [sc j (fun e => hn (.inl (by omega))), old j hj (fun e => hn (.inr e))]
      · rintro (q | q)
        · exact hn (.inl q)
        · rcases hown3 j q with e | e
          · exact hn (.inr e)
          · omega
/-- What Plan answers, of any table and day. -/
def PlanN (P : Nat → Pl) (pl : Nat) (R : Nat → Ru) (rl : Nat) (s k p : Int) (is : Bool) : Prop := (PlanMay P pl R rl s k ∧ is = true ∧ PlanOf R rl s k p) ∨ (¬ PlanMay P pl R rl s k ∧ p = 0 ∧ is = false)
theorem PlanN.unique {P : Nat → Pl} {pl : Nat} {R : Nat → Ru} {rl : Nat} {s k p p' : Int} {is is' : Bool} (h : PlanN P pl R rl s k p is) (h' : PlanN P pl R rl s k p' is') : p = p' ∧ is = is' := by
  rcases h with ⟨a, rfl, c⟩ | ⟨a, rfl, rfl⟩ <;> rcases h' with ⟨a', rfl, c'⟩ | ⟨a', rfl, rfl⟩
  · exact ⟨c.unique c', rfl⟩
  · exact absurd a a'
  · exact absurd a' a
  · exact ⟨rfl, rfl⟩
def PlanNE (P : Nat → Pl) (pl : Nat) (R : Nat → Ru) (rl : Nat) (s k : Int) (e : Ending) : Prop := ∃ p is, PlanN P pl R rl s k p is ∧ e = .returned (.tuple #[.int .i64 p, .bool is])
theorem planT_any (pa : Option Addr) (pl pc : Nat) (ra : Option Addr) (rl rc : Nat) (P : Nat → Pl) (R : Nat → Ru) (s kd : Int) (w : World) (hP : PlsAt w.heap.size w pa pl P) (hR : RusAt w.heap.size w ra rl R) (hlm : pl ≤ maxLen) (hrm : rl ≤ maxLen) :
    Calls Try.prog 20 #[tabV pa pl pc ra rl rc, .int .i64 s, .int .i64 kd] w fun e w' => PlanNE P pl R rl s kd e ∧ Below w.heap.size w w' := by
  by_cases h : PlanMay P pl R rl s kd
  · refine (planT_yes pa pl pc ra rl rc P R s kd h w hP hR hlm hrm).mono ?_
    rintro e w' ⟨⟨p, hp, rfl⟩, hB⟩
    exact ⟨⟨p, true, .inl ⟨h, rfl, hp⟩, rfl⟩, hB⟩
  · refine (planT_no pa pl pc ra rl rc P R s kd h w hP hR hlm hrm).mono ?_
    rintro e w' ⟨rfl, hB⟩
    exact ⟨⟨0, false, .inr ⟨h, rfl, rfl⟩, rfl⟩, hB⟩
theorem rPlanT_any (pa : Option Addr) (pl pc : Nat) (ra : Option Addr) (rl rc : Nat) (P : Nat → Pl) (R : Nat → Ru) (s kd : Int) (w : World) (hP : PlsAt w.heap.size w pa pl P) (hR : RusAt w.heap.size w ra rl R) (hlm : pl ≤ maxLen) (hrm : rl ≤ maxLen) :
    Calls Try.prog 21 #[tabV pa pl pc ra rl rc, .int .i64 s, .int .i64 kd] w fun e w' => PlanNE P pl R rl s kd e ∧ Below w.heap.size w w' := by
  by_cases h : PlanMay P pl R rl s kd
  · refine (rPlanT_yes pa pl pc ra rl rc P R s kd h w hP hR hlm hrm).mono ?_
    rintro e w' ⟨⟨p, hp, rfl⟩, hB⟩
    exact ⟨⟨p, true, .inl ⟨h, rfl, hp⟩, rfl⟩, hB⟩
  · refine (rPlanT_no pa pl pc ra rl rc P R s kd h w hP hR hlm hrm).mono ?_
    rintro e w' ⟨rfl, hB⟩
    exact ⟨⟨0, false, .inr ⟨h, rfl, rfl⟩, rfl⟩, hB⟩
/-- The copies, as plans of a table. -/
def cpP (P : Nat → Pl) (C : Nat → Option Addr × Nat) (i : Nat) : Pl := ⟨(C i).1, (P i).len, (C i).2, (P i).L⟩
theorem copies_pls {n k vc : Nat} {va : Option Addr} {w : World} {P : Nat → Pl} {C : Nat → Option Addr × Nat} {Nb : Nat → Prop} (hO : OwnV n w (.slice va k vc) ((List.range k).map (cpV P C))) (hC : Copies Nb w P C k) : PlsAt w.heap.size w va k (cpP P C) := by
  intro i hi
  obtain ⟨g, rfl, hg, hc⟩ := hO.cells i (by simpa using hi)
  refine ⟨g, 0, rfl, hg, ?_, (hC i hi).1, (hC i hi).2.sws⟩
  rw [Nat.zero_add, hc]
  simp [cpV, cpP, hi]
set_option maxRecDepth 100000 in
set_option maxHeartbeats 8000000 in
theorem tablesW_few (pa : Option Addr) (pl pc : Nat) (ra : Option Addr) (rl rc : Nat) (P : Nat → Pl) (R : Nat → Ru) (s kd : Int) (w : World) (hP : PlsAt w.heap.size w pa pl P) (hR : RusAt w.heap.size w ra rl R) (hlm : pl ≤ 60) (hrm : rl ≤ 110) :
    Calls Try.prog 4 #[tabV pa pl pc ra rl rc, .int .i64 s, .int .i64 kd] w fun e w' => e = .returned (.bool true) ∧ Below w.heap.size w w' := by
  have hb0 := ((Below.refl _ w).alloc (Nat.le_refl _) (.cells #[.slice pa pl pc, .slice ra rl rc] 41)).alloc (by simp) (.cells #[.slice none 0 0, .slice none 0 0] 45)
  have hz := heap_old (heap_alloc_new w (.cells #[.slice pa pl pc, .slice ra rl rc] 41)) (.cells #[.slice none 0 0, .slice none 0 0] 45)
  have hu := heap_alloc_new (w.alloc (.cells #[.slice pa pl pc, .slice ra rl rc] 41)) (.cells #[.slice none 0 0, .slice none 0 0] 45)
  rw [World.size_alloc] at hu
  have hsz : ((w.alloc (.cells #[.slice pa pl pc, .slice ra rl rc] 41)).alloc (.cells #[.slice none 0 0, .slice none 0 0] 45)).heap.size = w.heap.size + 2 := by simp [World.size_alloc]
  obtain ⟨n, hn⟩ : ∃ n, n = w.heap.size := ⟨_, rfl⟩
  have g1 : ¬ ((60 : Int) < pl) := by omega
  have g2 : ¬ ((110 : Int) < rl) := by omega
  have HP := Lib.hid hP
  have HR := Lib.hid hR
  have HB0 := Lib.hid hb0
  have HZ := Lib.hid hz
  have HU := Lib.hid hu
  have HSZ := Lib.hid hsz
  clear hz hu hb0 hsz hP hR hn
  go_enter Try.func4, Try.ntmps4
  go_wp2_with fail
  go_loopw [28] (fun i wr => ∃ (k : Nat) (va : Option Addr) (vc : Nat) (C : Nat → Option Addr × Nat), k ≤ pl ∧ i = .int .i64 k ∧ wr.heap[w.heap.size]? = some (.cells #[.slice pa pl pc, .slice ra rl rc] 41 (0, 0)) ∧ wr.heap[w.heap.size + 1]? = some (.cells #[.slice va k vc, .slice none 0 0] 45 (0, 0)) ∧ OwnV (w.heap.size + 2) wr (.slice va k vc) ((List.range k).map (cpV P C)) ∧ Copies (fun b => b ≤ w.heap.size + 1 ∨ (Value.slice va k vc).ownBlock = some b) wr P C k ∧ Below w.heap.size w wr) (fun i _ => (pl - intOf i).toNat)
  case atStart => exact ⟨0, none, 0, fun _ => (none, 0), Nat.zero_le _, rfl, HZ.out, HU.out, OwnV.nil _ _, fun i hi => absurd hi (Nat.not_lt_zero _), HB0.out⟩
  case round =>
    obtain ⟨k, va, vc, C, hk, rfl, hz, hu, hO, hC, hb⟩ := hrel
    obtain ⟨z0, z1⟩ := cells2t hz
    obtain ⟨u0, u1⟩ := cells2t hu
    have hul := (Array.getElem?_eq_some_iff.1 hu).1
    have HZR := Lib.hid hz
    have HUR := Lib.hid hu
    have HO := Lib.hid hO
    have HC := Lib.hid hC
    have HB := Lib.hid hb
    clear hz hu hO hC hb HZ HU HB0
    by_cases hlt : k < pl
    · have hlti : (k : Int) < pl := by omega
      obtain ⟨b, o, rfl, hbl, c0, ⟨hl1, hl2⟩, hsw⟩ := HP.out.next HB.out (Nat.le_refl _) (Nat.le_refl _) k hlt
      by_cases hgr : 60 < (P k).len
      · have g3 : (60 : Int) < (P k).len := by omega
        clear hsw
        go_wp2
        go_ret
        exact ⟨rfl, HB.out⟩
      · have g3 : ¬ ((60 : Int) < (P k).len) := by omega
        have HCALL := Lib.hid (plan_own (P k).a (P k).len (P k).cap (P k).L wr.drew ((hsw.mono HB.out.size)) (by omega))
        have huf := frozen_of_row wr (w.heap.size + 1) 0 _ _ HUR.out
        have hbsz := HB.out.size
        have hbl2 : b < wr.heap.size := by omega
        have hmx : Try.prog.follows .mixedOrders = true := by kernel_rfl
        obtain ⟨pka, pkl, pkc, pkL⟩ : ∃ (x : Option Addr) (y z : Nat), (P k).a = x ∧ (P k).len = y ∧ (P k).cap = z := ⟨_, _, _, rfl, rfl, rfl⟩
        rw [pkL.1, pkL.2.1, pkL.2.2] at c0
        rw [pkL.1, pkL.2.1, pkL.2.2] at HCALL
        rw [pkL.2.1] at g3
        have HPK := Lib.hid pkL
        clear hsw hl1 hl2 hgr pkL
        go_wp2_with fail
        have q1 : wr.drew.cell? ⟨w.heap.size, 0, none⟩ = some (.slice (some ⟨b, o, none⟩) pl pc) ∧ wr.drew.cell? ⟨w.heap.size + 1, 0, none⟩ = some (.slice va k vc) ∧ wr.drew.cell? ⟨b, o + k, none⟩ = some (.slice pka pkl pkc) := ⟨z0, u0, c0⟩
        refine regionL (fun W => W.cell? ⟨w.heap.size, 0, none⟩ = some (.slice (some ⟨b, o, none⟩) pl pc) ∧ W.cell? ⟨w.heap.size + 1, 0, none⟩ = some (.slice va k vc) ∧ W.cell? ⟨b, o + k, none⟩ = some (.slice pka pkl pkc)) 11 hmx ?_
        refine takeL (i := 0) (oi := { dst := some 38, op := Go.Op.fieldAddr 45 (Go.Operand.tmp 7) 0, type := 0, pos := "law.go:56", after := #[], guard := none }) (v := .pointer (some ⟨w.heap.size + 1, 0, none⟩)) [11] rfl (by kernel_rfl) (by kernel_rfl) (by kernel_rfl) (by kernel_rfl) (fun _ _ _ h => calm_panic h) rfl ?_ q1 ?_
        · intro W hW
          (try dsimp only at hW)
          obtain ⟨h0, h1, h2⟩ := hW
          go_simp
        simp only [Act.put, List.setIfInBounds_toArray, List.set_cons_zero, List.set_cons_succ]
        refine takeL (i := 1) (oi := { dst := some 39, op := Go.Op.load 42 (Go.Operand.tmp 38), type := 42, pos := "law.go:56", after := #[{ on := 0, ground := Go.Ground.data }], guard := none }) (v := .slice va k vc) [11] rfl (by kernel_rfl) (by kernel_rfl) (by kernel_rfl) (by kernel_rfl) (fun _ _ _ h => calm_panic h) rfl ?_ q1 ?_
        · intro W hW
          (try dsimp only at hW)
          obtain ⟨h0, h1, h2⟩ := hW
          go_simp
        simp only [Act.put, List.setIfInBounds_toArray, List.set_cons_zero, List.set_cons_succ]
        refine takeL (i := 2) (oi := { dst := some 40, op := Go.Op.fieldAddr 41 (Go.Operand.tmp 3) 0, type := 0, pos := "law.go:56", after := #[], guard := none }) (v := .pointer (some ⟨w.heap.size, 0, none⟩)) [11] rfl (by kernel_rfl) (by kernel_rfl) (by kernel_rfl) (by kernel_rfl) (fun _ _ _ h => calm_panic h) rfl ?_ q1 ?_
        · intro W hW
          (try dsimp only at hW)
          obtain ⟨h0, h1, h2⟩ := hW
          go_simp
        simp only [Act.put, List.setIfInBounds_toArray, List.set_cons_zero, List.set_cons_succ]
        refine takeL (i := 3) (oi := { dst := some 41, op := Go.Op.load 38 (Go.Operand.tmp 40), type := 38, pos := "law.go:56", after := #[{ on := 2, ground := Go.Ground.data }], guard := none }) (v := .slice (some ⟨b, o, none⟩) pl pc) [11] rfl (by kernel_rfl) (by kernel_rfl) (by kernel_rfl) (by kernel_rfl) (fun _ _ _ h => calm_panic h) rfl ?_ q1 ?_
        · intro W hW
          (try dsimp only at hW)
          obtain ⟨h0, h1, h2⟩ := hW
          go_simp
        simp only [Act.put, List.setIfInBounds_toArray, List.set_cons_zero, List.set_cons_succ]
        refine takeL (i := 4) (oi := { dst := some 42, op := Go.Op.move (Go.Operand.tmp 8), type := 3, pos := "law.go:56", after := #[], guard := none }) (v := .int .i64 k) [11] rfl (by kernel_rfl) (by kernel_rfl) (by kernel_rfl) (by kernel_rfl) (fun _ _ _ h => calm_panic h) rfl ?_ q1 ?_
        · intro W hW
          (try dsimp only at hW)
          obtain ⟨h0, h1, h2⟩ := hW
          go_simp
        simp only [Act.put, List.setIfInBounds_toArray, List.set_cons_zero, List.set_cons_succ]
        refine takeL (i := 5) (oi := { dst := some 43, op := Go.Op.indexAddr 38 (Go.Operand.tmp 41) (Go.Operand.tmp 42), type := 0, pos := "law.go:56", after := #[{ on := 3, ground := Go.Ground.data }, { on := 4, ground := Go.Ground.data }], guard := none }) (v := .pointer (some ⟨b, o + k, none⟩)) [11] rfl (by kernel_rfl) (by kernel_rfl) (by kernel_rfl) (by kernel_rfl) (fun _ _ _ h => calm_panic h) rfl ?_ q1 ?_
        · intro W hW
          (try dsimp only at hW)
          obtain ⟨h0, h1, h2⟩ := hW
          go_simp
        simp only [Act.put, List.setIfInBounds_toArray, List.set_cons_zero, List.set_cons_succ]
        refine takeL (i := 6) (oi := { dst := some 44, op := Go.Op.load 22 (Go.Operand.tmp 43), type := 22, pos := "law.go:56", after := #[{ on := 5, ground := Go.Ground.data }], guard := none }) (v := .slice pka pkl pkc) [11] rfl (by kernel_rfl) (by kernel_rfl) (by kernel_rfl) (by kernel_rfl) (fun _ _ _ h => calm_panic h) rfl ?_ q1 ?_
        · intro W hW
          (try dsimp only at hW)
          obtain ⟨h0, h1, h2⟩ := hW
          go_simp
        simp only [Act.put, List.setIfInBounds_toArray, List.set_cons_zero, List.set_cons_succ]
        refine oneL (i := 7) (o := { dst := some 45, op := Go.Op.call { callee := Go.Callee.value (Go.Operand.func 8), args := #[Go.Operand.tmp 44], argTypes := #[22] }, type := 23, pos := "law.go:56", after := #[{ on := 6, ground := Go.Ground.data }], guard := none }) rfl (by kernel_rfl) rfl ?_
        refine wp_by_call (f := 8) (args := #[.slice pka pkl pkc]) (by simp [execOp, go_sem]) ?_
        refine HCALL.out.mono ?_
        rintro e w2 ⟨⟨a2, c2, rfl, hO2⟩, hB2⟩
        have hB2' : Below wr.heap.size wr w2 := ⟨hB2.os, hB2.tape, hB2.output, hB2.size, hB2.block⟩
        have hO2' : OwnS wr.heap.size w2 (.slice a2 pkl c2) ((List.range pkl).map (P k).L) := hO2
        have hs2 := hB2'.size
        have hlw : ((List.range k).map (cpV P C)).length = k := by simp
        have HOA := Lib.hid (show OwnV (w.heap.size + 2) (w2.alloc (.cells #[.slice a2 pkl c2] 23)) (.slice va k vc) ((List.range k).map (cpV P C)) from HO.out.kept (fun j hj => by
          have := HO.out.row j hj
          exact (Below.heap_alloc w2 _ j (by omega)).trans (hB2'.block j (by omega))))
        have HCELL := Lib.hid (show (w2.alloc (.cells #[.slice a2 pkl c2] 23)).cell? ⟨w2.heap.size, 0, none⟩ = some (.slice a2 pkl c2) from cell_of_row _ _ 0 _ _ _ (heap_alloc_new w2 _))
        have HSTEP := Lib.hid (fun a3 c3 w3 => copies_step (n := w.heap.size) (a3 := a3) (c3 := c3) (w3 := w3) (o := .cells #[.slice a2 pkl c2] 23) HO.out HC.out HZR.out HUR.out hB2' hO2' HPK.out.2.1)
        have HB2 := Lib.hid (HB.out.trans (hB2'.mono HB.out.size))
        have HLW := Lib.hid hlw
        have q2 : w2.cell? ⟨w.heap.size, 0, none⟩ = some (.slice (some ⟨b, o, none⟩) pl pc) ∧ w2.cell? ⟨w.heap.size + 1, 0, none⟩ = some (.slice va k vc) ∧ w2.cell? ⟨b, o + k, none⟩ = some (.slice pka pkl pkc) := ⟨(hB2'.cell (p := ⟨w.heap.size, 0, none⟩) (show w.heap.size < wr.heap.size by omega)).trans z0, (hB2'.cell (p := ⟨w.heap.size + 1, 0, none⟩) hul).trans u0, (hB2'.cell (p := ⟨b, o + k, none⟩) hbl2).trans c0⟩
        have hba := (Below.refl w2.heap.size w2).alloc (Nat.le_refl _) (.cells #[.slice a2 pkl c2] 23)
        have q3 : (w2.alloc (.cells #[.slice a2 pkl c2] 23)).cell? ⟨w.heap.size, 0, none⟩ = some (.slice (some ⟨b, o, none⟩) pl pc) ∧ (w2.alloc (.cells #[.slice a2 pkl c2] 23)).cell? ⟨w.heap.size + 1, 0, none⟩ = some (.slice va k vc) ∧ (w2.alloc (.cells #[.slice a2 pkl c2] 23)).cell? ⟨b, o + k, none⟩ = some (.slice pka pkl pkc) := ⟨(hba.cell (p := ⟨w.heap.size, 0, none⟩) (show w.heap.size < w2.heap.size by omega)).trans q2.1, (hba.cell (p := ⟨w.heap.size + 1, 0, none⟩) (show w.heap.size + 1 < w2.heap.size by omega)).trans q2.2.1, (hba.cell (p := ⟨b, o + k, none⟩) (show b < w2.heap.size by omega)).trans q2.2.2⟩
        clear hB2 hO2 hB2' hO2' hlw HCALL z0 z1 u0 u1 huf c0
        refine ⟨_, rfl, fun _ => q2, ?_⟩
        simp only [Act.put, List.setIfInBounds_toArray, List.set_cons_zero, List.set_cons_succ]
        refine oneL (i := 8) (o := { dst := some 46, op := Go.Op.buildSlice 42 1 #[(0, Go.Operand.tmp 45)], type := 42, pos := "law.go:56", after := #[{ on := 7, ground := Go.Ground.data }], guard := none }) rfl (by kernel_rfl) rfl ?_
        refine wp_by_run (v := .slice (some ⟨w2.heap.size, 0, none⟩) 1 1) (w' := w2.alloc (.cells #[.slice a2 pkl c2] 23)) (by go_simp) ?_
        refine ⟨fun _ => q3, ?_⟩
        simp only [Act.put, List.setIfInBounds_toArray, List.set_cons_zero, List.set_cons_succ]
        refine oneL (i := 9) (o := { dst := some 47, op := Go.Op.call { callee := Go.Callee.builtin Go.Builtin.append, args := #[Go.Operand.tmp 39, Go.Operand.tmp 46], argTypes := #[42, 42] }, type := 42, pos := "law.go:56", after := #[{ on := 1, ground := Go.Ground.data }, { on := 8, ground := Go.Ground.data }, { on := 7, ground := Go.Ground.chain }], guard := none }) rfl (by kernel_rfl) rfl ?_
        refine wpR_OwnVN rfl (.tmp 39) (.tmp 46) rfl (w.heap.size + 2) _ ((List.range k).map (cpV P C)) rfl HOA.out w2.heap.size (.slice a2 pkl c2) rfl HCELL.out rfl (k + 1) (by rw [HLW.out]) (by rw [HLW.out]; omega) (by rw [World.size_alloc]; omega) ?_
        intro a3 c3 w3 hO3 hG3 hN3
        obtain ⟨s1, s2, s3, s4⟩ := HSTEP.out a3 c3 w3 hO3 hG3 hN3
        obtain ⟨s5, s6⟩ := s4 (.slice a3 (k + 1) c3)
        have HB3 := Lib.hid (HB2.out.trans ((s3.mono (by have := HB.out.size; omega)).trans ((Below.refl w.heap.size _).grown hG3 (by rw [World.size_alloc]; omega) (fun r e => by have := HO.out.row r e; omega))))
        have q4 : w3.cell? ⟨w.heap.size, 0, none⟩ = some (.slice (some ⟨b, o, none⟩) pl pc) ∧ w3.cell? ⟨w.heap.size + 1, 0, none⟩ = some (.slice va k vc) ∧ w3.cell? ⟨b, o + k, none⟩ = some (.slice pka pkl pkc) := ⟨cell_of_row _ _ 0 _ _ _ s1, cell_of_row _ _ 0 _ _ _ s2, (World.grownBy.cell hG3 q3.2.2 (fun e => by have := HO.out.row b e.symm; omega))⟩
        have y0 := q4.2.1
        have yf := frozen_of_row w3 (w.heap.size + 1) 0 _ _ s2
        have S1 := Lib.hid s1
        have S2 := Lib.hid s2
        have S5 := Lib.hid s5
        have S6 := Lib.hid s6
        clear s1 s2 s3 s4 s5 s6 hO3 hG3 hN3 q1 q2 q3 hba
        refine ⟨fun _ => q4, ?_⟩
        simp only [Act.put, List.setIfInBounds_toArray, List.set_cons_zero, List.set_cons_succ]
        refine oneL (i := 10) (o := { dst := some 48, op := Go.Op.fieldAddr 45 (Go.Operand.tmp 7) 0, type := 0, pos := "law.go:56", after := #[{ on := 0, ground := Go.Ground.phase }, { on := 1, ground := Go.Ground.phase }, { on := 2, ground := Go.Ground.phase }, { on := 3, ground := Go.Ground.phase }, { on := 4, ground := Go.Ground.phase }, { on := 5, ground := Go.Ground.phase }, { on := 6, ground := Go.Ground.phase }, { on := 7, ground := Go.Ground.phase }, { on := 8, ground := Go.Ground.phase }, { on := 9, ground := Go.Ground.phase }], guard := none }) rfl (by kernel_rfl) rfl ?_
        refine wp_by_run (v := .pointer (some ⟨w.heap.size + 1, 0, none⟩)) (w' := w3) (by go_simp) ?_
        refine ⟨fun _ => q4, ?_⟩
        simp only [Act.put, List.setIfInBounds_toArray, List.set_cons_zero, List.set_cons_succ]
        refine oneL (i := 11) (o := { dst := none, op := Go.Op.store 42 (Go.Operand.tmp 48) (Go.Operand.tmp 47), type := 0, pos := "law.go:56", after := #[{ on := 10, ground := Go.Ground.data }, { on := 9, ground := Go.Ground.data }, { on := 9, ground := Go.Ground.chain }, { on := 0, ground := Go.Ground.phase }, { on := 1, ground := Go.Ground.phase }, { on := 2, ground := Go.Ground.phase }, { on := 3, ground := Go.Ground.phase }, { on := 4, ground := Go.Ground.phase }, { on := 5, ground := Go.Ground.phase }, { on := 6, ground := Go.Ground.phase }, { on := 7, ground := Go.Ground.phase }, { on := 8, ground := Go.Ground.phase }, { on := 9, ground := Go.Ground.phase }], guard := none }) rfl (by kernel_rfl) rfl ?_
        refine wp_by_skip (w' := w3.setCell ⟨w.heap.size + 1, 0, none⟩ (.slice a3 (k + 1) c3)) (by go_simp) ?_
        refine ⟨fun h => absurd rfl h, ?_⟩
        refine doneL (by kernel_rfl) (Calm.normal ?_) _
        clear q4 y0 yf
        go_wp2
        go_roundw
        case rel => exact ⟨k + 1, a3, c3, putC C k (a2, c2), by omega, by go_num, (heap_setCell_other _ ⟨w.heap.size + 1, 0, none⟩ w.heap.size _ (by show w.heap.size ≠ w.heap.size + 1; omega)).trans S1.out, heap_setCell_same _ (w.heap.size + 1) 0 _ _ _ S2.out, S5.out, S6.out, HB3.out.setCell (p := ⟨w.heap.size + 1, 0, none⟩) (by show w.heap.size ≤ w.heap.size + 1; omega) _⟩
        case measure => first | (simp [intOf]; done) | (simp [intOf]; omega)
    · have hke : k = pl := by omega
      subst hke
      have hnl : ¬ ((k : Int) < k) := by omega
      have HPU := Lib.hid (copies_pls HO.out HC.out)
      obtain ⟨ws, rfl⟩ : ∃ ws : World, ws = wr := ⟨_, rfl⟩
      clear HPU
      go_wp2_with fail
      go_loopw [53] (fun i w2 => ∃ (m : Nat) (xa : Option Addr) (xc : Nat), m ≤ rl ∧ i = .int .i64 m ∧ w2.heap[w.heap.size]? = some (.cells #[.slice pa k pc, .slice ra rl rc] 41 (0, 0)) ∧ w2.heap[w.heap.size + 1]? = some (.cells #[.slice va k vc, .slice xa m xc] 45 (0, 0)) ∧ OwnU ws.heap.size w2 (.slice xa m xc) ((List.range m).map R) ∧ (ws.heap.size ≤ w2.heap.size ∧ ∀ j, j < ws.heap.size → j ≠ w.heap.size + 1 → w2.heap[j]? = ws.heap[j]?) ∧ Below w.heap.size w w2) (fun i _ => (rl - intOf i).toNat)
      case atStart => exact ⟨0, none, 0, Nat.zero_le _, rfl, HZR.out, HUR.out, OwnU.nil _ _, ⟨Nat.le_refl _, fun _ _ _ => rfl⟩, HB.out⟩
      case round =>
        obtain ⟨m, xa, xc, hm, rfl, hz2, hu2, hO, ⟨hks, hkeep⟩, hb⟩ := hrel
        obtain ⟨w2, rfl⟩ : ∃ w2 : World, w2 = wr := ⟨_, rfl⟩
        obtain ⟨y0, y1⟩ := cells2t hz2
        obtain ⟨x0, x1⟩ := cells2t hu2
        have hul2 := (Array.getElem?_eq_some_iff.1 hu2).1
        have HZ2 := Lib.hid hz2
        have HU2 := Lib.hid hu2
        have HO2 := Lib.hid hO
        have HKEEP := Lib.hid hkeep
        have HB2 := Lib.hid hb
        clear hz2 hu2 hO hkeep hb HZR HUR z0 z1 u0 u1
        by_cases hlt2 : m < rl
        · have hlti2 : (m : Int) < rl := by omega
          obtain ⟨b, o, rfl, hbl, c0, c1, c2⟩ := HR.out.next HB2.out (Nat.le_refl _) (Nat.le_refl _) m hlt2
          obtain ⟨r, hr⟩ : ∃ r, R m = r := ⟨_, rfl⟩
          rw [hr] at c0 c1 c2
          have HRR := Lib.hid hr
          obtain ⟨rs, rk, rp⟩ := r
          simp only at c0 c1 c2
          have hbsz := HB2.out.size
          have hmx : Try.prog.follows .mixedOrders = true := by kernel_rfl
          have hlm : ((List.range m).map R).length = m := by simp
          have HLM := Lib.hid hlm
          have q1 : w2.drew.cell? ⟨w.heap.size, 1, none⟩ = some (.slice (some ⟨b, o, none⟩) rl rc) ∧ w2.drew.cell? ⟨w.heap.size + 1, 1, none⟩ = some (.slice xa m xc) ∧ w2.drew.cell? ⟨b, o + m * 3, none⟩ = some (.int .i64 rs) ∧ w2.drew.cell? ⟨b, o + m * 3 + 1, none⟩ = some (.int .i64 rk) ∧ w2.drew.cell? ⟨b, o + m * 3 + 2, none⟩ = some (.int .i64 rp) := ⟨y1, x1, c0, c1, c2⟩
          have hba := (Below.refl w2.heap.size w2).alloc (Nat.le_refl _) (.cells #[.int .i64 rs, .int .i64 rk, .int .i64 rp] 47)
          have q3 : (w2.alloc (.cells #[.int .i64 rs, .int .i64 rk, .int .i64 rp] 47)).cell? ⟨w.heap.size, 1, none⟩ = some (.slice (some ⟨b, o, none⟩) rl rc) ∧ (w2.alloc (.cells #[.int .i64 rs, .int .i64 rk, .int .i64 rp] 47)).cell? ⟨w.heap.size + 1, 1, none⟩ = some (.slice xa m xc) ∧ (w2.alloc (.cells #[.int .i64 rs, .int .i64 rk, .int .i64 rp] 47)).cell? ⟨b, o + m * 3, none⟩ = some (.int .i64 rs) ∧ (w2.alloc (.cells #[.int .i64 rs, .int .i64 rk, .int .i64 rp] 47)).cell? ⟨b, o + m * 3 + 1, none⟩ = some (.int .i64 rk) ∧ (w2.alloc (.cells #[.int .i64 rs, .int .i64 rk, .int .i64 rp] 47)).cell? ⟨b, o + m * 3 + 2, none⟩ = some (.int .i64 rp) := ⟨(hba.cell (p := ⟨w.heap.size, 1, none⟩) (show w.heap.size < w2.heap.size by omega)).trans y1, (hba.cell (p := ⟨w.heap.size + 1, 1, none⟩) hul2).trans x1, (hba.cell (p := ⟨b, o + m * 3, none⟩) (show b < w2.heap.size by omega)).trans c0, (hba.cell (p := ⟨b, o + m * 3 + 1, none⟩) (show b < w2.heap.size by omega)).trans c1, (hba.cell (p := ⟨b, o + m * 3 + 2, none⟩) (show b < w2.heap.size by omega)).trans c2⟩
          have hnew := heap_alloc_new w2 (.cells #[.int .i64 rs, .int .i64 rk, .int .i64 rp] 47)
          have HOA := Lib.hid (show OwnU ws.heap.size (w2.alloc (.cells #[.int .i64 rs, .int .i64 rk, .int .i64 rp] 47)) (.slice xa m xc) ((List.range m).map R) from HO2.out.kept (fun j hj => Below.heap_alloc w2 _ j (HO2.out.row j hj).2))
          have N0 := Lib.hid (show (w2.alloc (.cells #[.int .i64 rs, .int .i64 rk, .int .i64 rp] 47)).cell? ⟨w2.heap.size, 0, none⟩ = some (.int .i64 rs) from cell_of_row _ _ 0 _ _ _ hnew)
          have N1 := Lib.hid (show (w2.alloc (.cells #[.int .i64 rs, .int .i64 rk, .int .i64 rp] 47)).cell? ⟨w2.heap.size, 1, none⟩ = some (.int .i64 rk) from cell_of_row _ _ 1 _ _ _ hnew)
          have N2 := Lib.hid (show (w2.alloc (.cells #[.int .i64 rs, .int .i64 rk, .int .i64 rp] 47)).cell? ⟨w2.heap.size, 2, none⟩ = some (.int .i64 rp) from cell_of_row _ _ 2 _ _ _ hnew)
          clear hr hlm hnew y0 y1 x0 x1 c0 c1 c2
          go_wp2_with fail
          refine regionL (fun W => W.cell? ⟨w.heap.size, 1, none⟩ = some (.slice (some ⟨b, o, none⟩) rl rc) ∧ W.cell? ⟨w.heap.size + 1, 1, none⟩ = some (.slice xa m xc) ∧ W.cell? ⟨b, o + m * 3, none⟩ = some (.int .i64 rs) ∧ W.cell? ⟨b, o + m * 3 + 1, none⟩ = some (.int .i64 rk) ∧ W.cell? ⟨b, o + m * 3 + 2, none⟩ = some (.int .i64 rp)) 10 hmx ?_
          change AnyL _ _ _ _ _ _ _ _ _ w2.drew
          refine takeL (i := 0) (oi := { dst := some 56, op := Go.Op.fieldAddr 45 (Go.Operand.tmp 7) 1, type := 0, pos := "law.go:59", after := #[], guard := none }) (v := .pointer (some ⟨w.heap.size + 1, 1, none⟩)) [10] rfl (by kernel_rfl) (by kernel_rfl) (by kernel_rfl) (by kernel_rfl) (fun _ _ _ h => calm_panic h) rfl ?_ q1 ?_
          · intro W hW
            (try dsimp only at hW)
            obtain ⟨h0, h1, h2, h3, h4⟩ := hW
            go_simp
          simp only [Act.put, List.setIfInBounds_toArray, List.set_cons_zero, List.set_cons_succ]
          refine takeL (i := 1) (oi := { dst := some 57, op := Go.Op.load 43 (Go.Operand.tmp 56), type := 43, pos := "law.go:59", after := #[{ on := 0, ground := Go.Ground.data }], guard := none }) (v := .slice xa m xc) [10] rfl (by kernel_rfl) (by kernel_rfl) (by kernel_rfl) (by kernel_rfl) (fun _ _ _ h => calm_panic h) rfl ?_ q1 ?_
          · intro W hW
            (try dsimp only at hW)
            obtain ⟨h0, h1, h2, h3, h4⟩ := hW
            go_simp
          simp only [Act.put, List.setIfInBounds_toArray, List.set_cons_zero, List.set_cons_succ]
          refine takeL (i := 2) (oi := { dst := some 58, op := Go.Op.fieldAddr 41 (Go.Operand.tmp 3) 1, type := 0, pos := "law.go:59", after := #[], guard := none }) (v := .pointer (some ⟨w.heap.size, 1, none⟩)) [10] rfl (by kernel_rfl) (by kernel_rfl) (by kernel_rfl) (by kernel_rfl) (fun _ _ _ h => calm_panic h) rfl ?_ q1 ?_
          · intro W hW
            (try dsimp only at hW)
            obtain ⟨h0, h1, h2, h3, h4⟩ := hW
            go_simp
          simp only [Act.put, List.setIfInBounds_toArray, List.set_cons_zero, List.set_cons_succ]
          refine takeL (i := 3) (oi := { dst := some 59, op := Go.Op.load 39 (Go.Operand.tmp 58), type := 39, pos := "law.go:59", after := #[{ on := 2, ground := Go.Ground.data }], guard := none }) (v := .slice (some ⟨b, o, none⟩) rl rc) [10] rfl (by kernel_rfl) (by kernel_rfl) (by kernel_rfl) (by kernel_rfl) (fun _ _ _ h => calm_panic h) rfl ?_ q1 ?_
          · intro W hW
            (try dsimp only at hW)
            obtain ⟨h0, h1, h2, h3, h4⟩ := hW
            go_simp
          simp only [Act.put, List.setIfInBounds_toArray, List.set_cons_zero, List.set_cons_succ]
          refine takeL (i := 4) (oi := { dst := some 60, op := Go.Op.move (Go.Operand.tmp 9), type := 3, pos := "law.go:59", after := #[], guard := none }) (v := .int .i64 m) [10] rfl (by kernel_rfl) (by kernel_rfl) (by kernel_rfl) (by kernel_rfl) (fun _ _ _ h => calm_panic h) rfl ?_ q1 ?_
          · intro W hW
            (try dsimp only at hW)
            obtain ⟨h0, h1, h2, h3, h4⟩ := hW
            go_simp
          simp only [Act.put, List.setIfInBounds_toArray, List.set_cons_zero, List.set_cons_succ]
          refine takeL (i := 5) (oi := { dst := some 61, op := Go.Op.indexAddr 39 (Go.Operand.tmp 59) (Go.Operand.tmp 60), type := 0, pos := "law.go:59", after := #[{ on := 3, ground := Go.Ground.data }, { on := 4, ground := Go.Ground.data }], guard := none }) (v := .pointer (some ⟨b, o + m * 3, none⟩)) [10] rfl (by kernel_rfl) (by kernel_rfl) (by kernel_rfl) (by kernel_rfl) (fun _ _ _ h => calm_panic h) rfl ?_ q1 ?_
          · intro W hW
            (try dsimp only at hW)
            obtain ⟨h0, h1, h2, h3, h4⟩ := hW
            go_simp
          simp only [Act.put, List.setIfInBounds_toArray, List.set_cons_zero, List.set_cons_succ]
          refine takeL (i := 6) (oi := { dst := some 62, op := Go.Op.load 48 (Go.Operand.tmp 61), type := 48, pos := "law.go:59", after := #[{ on := 5, ground := Go.Ground.data }], guard := none }) (v := .agg #[.int .i64 rs, .int .i64 rk, .int .i64 rp]) [10] rfl (by kernel_rfl) (by kernel_rfl) (by kernel_rfl) (by kernel_rfl) (fun _ _ _ h => calm_panic h) rfl ?_ q1 ?_
          · intro W hW
            (try dsimp only at hW)
            obtain ⟨h0, h1, h2, h3, h4⟩ := hW
            go_simp
          simp only [Act.put, List.setIfInBounds_toArray, List.set_cons_zero, List.set_cons_succ]
          refine oneL (i := 7) (o := { dst := some 63, op := Go.Op.buildSlice 43 1 #[(0, Go.Operand.tmp 62)], type := 43, pos := "law.go:59", after := #[{ on := 6, ground := Go.Ground.data }], guard := none }) rfl (by kernel_rfl) rfl ?_
          refine wp_by_run (v := .slice (some ⟨w2.heap.size, 0, none⟩) 1 1) (w' := (w2.alloc (.cells #[.int .i64 rs, .int .i64 rk, .int .i64 rp] 47)).drew) (by go_simp) ?_
          refine ⟨fun _ => q3, ?_⟩
          simp only [Act.put, List.setIfInBounds_toArray, List.set_cons_zero, List.set_cons_succ]
          refine oneL (i := 8) (o := { dst := some 64, op := Go.Op.call { callee := Go.Callee.builtin Go.Builtin.append, args := #[Go.Operand.tmp 57, Go.Operand.tmp 63], argTypes := #[43, 43] }, type := 43, pos := "law.go:59", after := #[{ on := 1, ground := Go.Ground.data }, { on := 7, ground := Go.Ground.data }], guard := none }) rfl (by kernel_rfl) rfl ?_
          refine wpR_OwnUN rfl (.tmp 57) (.tmp 63) rfl ws.heap.size _ ((List.range m).map R) rfl HOA.out w2.heap.size ⟨rs, rk, rp⟩ rfl N0.out N1.out N2.out (m + 1) (by rw [HLM.out]) (by rw [HLM.out]; omega) (by show ws.heap.size ≤ (w2.alloc _).heap.size; rw [World.size_alloc]; omega) ?_
          intro a3 c3 w3 hO3 hG3
          have hown := HO2.out.row
          have k3 : ∀ j, j < w2.heap.size → (Value.slice xa m xc).ownBlock ≠ some j → w3.heap[j]? = w2.heap[j]? := fun j hj hne => (hG3.block j (by show j < (w2.alloc _).heap.size; rw [World.size_alloc]; omega) (fun e => hne e.symm)).trans (Below.heap_alloc w2 _ j hj)
          have hz3 := (k3 w.heap.size (by omega) (fun e => by have := hown _ e; omega)).trans HZ2.out
          have hu3 := (k3 (w.heap.size + 1) hul2 (fun e => by have := hown _ e; omega)).trans HU2.out
          have q4 : w3.cell? ⟨w.heap.size, 1, none⟩ = some (.slice (some ⟨b, o, none⟩) rl rc) ∧ w3.cell? ⟨w.heap.size + 1, 1, none⟩ = some (.slice xa m xc) ∧ w3.cell? ⟨b, o + m * 3, none⟩ = some (.int .i64 rs) ∧ w3.cell? ⟨b, o + m * 3 + 1, none⟩ = some (.int .i64 rk) ∧ w3.cell? ⟨b, o + m * 3 + 2, none⟩ = some (.int .i64 rp) := ⟨cell_of_row _ _ 1 _ _ _ hz3, cell_of_row _ _ 1 _ _ _ hu3, World.grownBy.cell hG3 q3.2.2.1 (fun e => by have := hown b e.symm; omega), World.grownBy.cell hG3 q3.2.2.2.1 (fun e => by have := hown b e.symm; omega), World.grownBy.cell hG3 q3.2.2.2.2 (fun e => by have := hown b e.symm; omega)⟩
          have y0 := q4.2.1
          have yf := frozen_of_row w3 (w.heap.size + 1) 1 _ _ hu3
          have hs3 : w2.heap.size + 1 ≤ w3.heap.size := by have := hG3.size; rwa [show ((w2.alloc (.cells #[.int .i64 rs, .int .i64 rk, .int .i64 rp] 47)).drew).heap.size = w2.heap.size + 1 from World.size_alloc _ _] at this
          have HB3 := Lib.hid (show Below w.heap.size w w3 from HB2.out.trans (((Below.refl w.heap.size w2).alloc HB2.out.size (.cells #[.int .i64 rs, .int .i64 rk, .int .i64 rp] 47)).drew.trans ((Below.refl w.heap.size _).grown hG3 (by show w.heap.size ≤ (w2.alloc _).heap.size; rw [World.size_alloc]; omega) (fun r e => by have := hown r e; omega))))
          have HKEEP3 := Lib.hid (show ∀ j, j < ws.heap.size → j ≠ w.heap.size + 1 → w3.heap[j]? = ws.heap[j]? from fun j hj hne => (k3 j (by omega) (fun e => by have := hown j e; omega)).trans (HKEEP.out j hj hne))
          have HZ3 := Lib.hid hz3
          have HU3 := Lib.hid hu3
          have HO3 := Lib.hid hO3
          clear hO3 hG3 hz3 hu3 k3 hown q1 q3 hba
          refine ⟨fun _ => q4, ?_⟩
          simp only [Act.put, List.setIfInBounds_toArray, List.set_cons_zero, List.set_cons_succ]
          refine oneL (i := 9) (o := { dst := some 65, op := Go.Op.fieldAddr 45 (Go.Operand.tmp 7) 1, type := 0, pos := "law.go:59", after := #[{ on := 0, ground := Go.Ground.phase }, { on := 1, ground := Go.Ground.phase }, { on := 2, ground := Go.Ground.phase }, { on := 3, ground := Go.Ground.phase }, { on := 4, ground := Go.Ground.phase }, { on := 5, ground := Go.Ground.phase }, { on := 6, ground := Go.Ground.phase }, { on := 7, ground := Go.Ground.phase }, { on := 8, ground := Go.Ground.phase }], guard := none }) rfl (by kernel_rfl) rfl ?_
          refine wp_by_run (v := .pointer (some ⟨w.heap.size + 1, 1, none⟩)) (w' := w3) (by go_simp) ?_
          refine ⟨fun _ => q4, ?_⟩
          simp only [Act.put, List.setIfInBounds_toArray, List.set_cons_zero, List.set_cons_succ]
          refine oneL (i := 10) (o := { dst := none, op := Go.Op.store 43 (Go.Operand.tmp 65) (Go.Operand.tmp 64), type := 0, pos := "law.go:59", after := #[{ on := 9, ground := Go.Ground.data }, { on := 8, ground := Go.Ground.data }, { on := 8, ground := Go.Ground.chain }, { on := 0, ground := Go.Ground.phase }, { on := 1, ground := Go.Ground.phase }, { on := 2, ground := Go.Ground.phase }, { on := 3, ground := Go.Ground.phase }, { on := 4, ground := Go.Ground.phase }, { on := 5, ground := Go.Ground.phase }, { on := 6, ground := Go.Ground.phase }, { on := 7, ground := Go.Ground.phase }, { on := 8, ground := Go.Ground.phase }], guard := none }) rfl (by kernel_rfl) rfl ?_
          refine wp_by_skip (w' := w3.setCell ⟨w.heap.size + 1, 1, none⟩ (.slice a3 (m + 1) c3)) (by go_simp) ?_
          refine ⟨fun h => absurd rfl h, ?_⟩
          refine doneL (by kernel_rfl) (Calm.normal ?_) _
          clear q4 y0 yf
          go_wp2
          go_roundw
          case rel => exact ⟨m + 1, a3, c3, by omega, by go_num, (heap_setCell_other _ ⟨w.heap.size + 1, 1, none⟩ w.heap.size _ (by show w.heap.size ≠ w.heap.size + 1; omega)).trans HZ3.out, heap_setCell_same _ (w.heap.size + 1) 1 _ _ _ HU3.out, by rw [List.range_succ, List.map_append, List.map_cons, List.map_nil, HRR.out]; exact HO3.out.kept (fun j hj => heap_setCell_other _ ⟨w.heap.size + 1, 1, none⟩ j _ (by have := HO3.out.row j hj; show j ≠ w.heap.size + 1; omega)), ⟨by simp; omega, fun j hj hne => (heap_setCell_other _ ⟨w.heap.size + 1, 1, none⟩ j _ hne).trans (HKEEP3.out j hj hne)⟩, HB3.out.setCell (p := ⟨w.heap.size + 1, 1, none⟩) (by show w.heap.size ≤ w.heap.size + 1; omega) _⟩
          case measure => first | (simp [intOf]; done) | (simp [intOf]; omega)
        · have hme : m = rl := by omega
          subst hme
          have hnl2 : ¬ ((m : Int) < m) := by omega
          have hown := HO.out.row
          have HPU := Lib.hid (copies_pls (HO.out.kept (w' := w2) (fun j hj => HKEEP.out j (hown j hj).2 (by have := (hown j hj).1; omega))) (fun i hi => ⟨(HC.out i hi).1, (HC.out i hi).2.kept (Nb' := fun b => b ≤ w.heap.size + 1 ∨ (Value.slice va k vc).ownBlock = some b) hks (fun j hj hn => HKEEP.out j hj (fun e => hn (.inl (by omega)))) (fun j hj hn => hn)⟩))
          have hrus := HO2.out.rus
          have hlm : ((List.range m).map R).length = m := by simp
          rw [hlm] at hrus
          have HRU := Lib.hid (hrus.fn (R' := R) (fun i hi => by simp [List.getD, hi]))
          have HPT := Lib.hid (fun (W : World) (hB : Below w.heap.size w W) => (HP.out.next hB (Nat.le_refl _) (Nat.le_refl _)).mono hB.size)
          have HRT := Lib.hid (fun (W : World) (hB : Below w.heap.size w W) => (HR.out.next hB (Nat.le_refl _) (Nat.le_refl _)).mono hB.size)
          have HPX := Lib.hid (fun (W : World) (hB : Below w2.heap.size w2 W) => (HPU.out.next hB (Nat.le_refl _) (Nat.le_refl _)).mono hB.size)
          have HRX := Lib.hid (fun (W : World) (hB : Below w2.heap.size w2 W) => (HRU.out.next hB (Nat.le_refl _) (Nat.le_refl _)).mono hB.size)
          have HWX := Lib.hid (fun (W : World) (hB : Below w2.heap.size w2 W) => HB2.out.trans (hB.mono HB2.out.size))
          have HLK := Lib.hid (show k ≤ maxLen by unfold maxLen; omega)
          have HLM := Lib.hid (show m ≤ maxLen by unfold maxLen; omega)
          have hzl2 := (Array.getElem?_eq_some_iff.1 HZ2.out).1
          clear hrus hlm hown HO HC HP HR HO2 HKEEP HPU HRU HB hks
          by_cases ht : TabIs P k R m
          · have HTE := Lib.hid (tErr_yes ht)
            have HTB := Lib.hid (show decide (TabIs (cpP P C) k R m) = true from decide_eq_true ht)
            clear ht
            have C0 := Lib.hid (Below.refl w2.heap.size w2)
            go_wp2_with fail
            refine (planT_any pa k pc ra m rc P R s kd w2 (HPT.out _ (HWX.out _ C0.out)) (HRT.out _ (HWX.out _ C0.out)) HLK.out HLM.out).mono ?_
            rintro e w3 ⟨⟨p, is, hp, rfl⟩, hB3⟩
            obtain ⟨a0, a1⟩ := cells2t ((hB3.block w.heap.size hzl2).trans HZ2.out)
            obtain ⟨b0, b1⟩ := cells2t ((hB3.block (w.heap.size + 1) hul2).trans HU2.out)
            have HPP := Lib.hid hp
            have C1 := Lib.hid (C0.out.trans (hB3.mono C0.out.size))
            clear hB3 C0 y0 y1 x0 x1 hp
            go_wp2_with fail
            refine (rPlanT_any va k vc xa m xc (cpP P C) R s kd w3 (HPX.out _ C1.out) (HRX.out _ C1.out) HLK.out HLM.out).mono ?_
            rintro e w4 ⟨⟨p', is', hp', rfl⟩, hB4⟩
            obtain ⟨rfl, rfl⟩ := PlanN.unique (show PlanN P k R m s kd p' is' from hp') HPP.out
            have C2 := Lib.hid (C1.out.trans (hB4.mono C1.out.size))
            obtain ⟨a0', a1'⟩ := cells2t ((C2.out.block w.heap.size hzl2).trans HZ2.out)
            clear hB4 C1 hp' HPP a0 a1 b0 b1
            go_wp2_with fail
            refine (checkT_any pa k pc ra m rc P R w4 (HPT.out _ (HWX.out _ C2.out)) (HRT.out _ (HWX.out _ C2.out)) HLK.out HLM.out).mono ?_
            rw [HTE.out]
            rintro e w5 ⟨rfl, hB5⟩
            have C3 := Lib.hid (C2.out.trans (hB5.mono C2.out.size))
            obtain ⟨d0, d1⟩ := cells2t ((C3.out.block (w.heap.size + 1) hul2).trans HU2.out)
            clear hB5 C2 a0' a1'
            go_wp2_with fail
            refine (rCheckT_any va k vc xa m xc (cpP P C) R w5 (HPX.out _ C3.out) (HRX.out _ C3.out) HLK.out HLM.out).mono ?_
            rw [HTB.out]
            rintro e w6 ⟨rfl, hB6⟩
            have HF := Lib.hid (HWX.out _ (C3.out.trans (hB6.mono C3.out.size)))
            clear hB6 C3 d0 d1
            go_wp2
            go_ret
            exact ⟨rfl, HF.out⟩
          · have HTE := Lib.hid (tErr_no ht)
            have HTB := Lib.hid (show decide (TabIs (cpP P C) k R m) = false from decide_eq_false ht)
            clear ht
            have C0 := Lib.hid (Below.refl w2.heap.size w2)
            go_wp2_with fail
            refine (planT_any pa k pc ra m rc P R s kd w2 (HPT.out _ (HWX.out _ C0.out)) (HRT.out _ (HWX.out _ C0.out)) HLK.out HLM.out).mono ?_
            rintro e w3 ⟨⟨p, is, hp, rfl⟩, hB3⟩
            obtain ⟨a0, a1⟩ := cells2t ((hB3.block w.heap.size hzl2).trans HZ2.out)
            obtain ⟨b0, b1⟩ := cells2t ((hB3.block (w.heap.size + 1) hul2).trans HU2.out)
            have HPP := Lib.hid hp
            have C1 := Lib.hid (C0.out.trans (hB3.mono C0.out.size))
            clear hB3 C0 y0 y1 x0 x1 hp
            go_wp2_with fail
            refine (rPlanT_any va k vc xa m xc (cpP P C) R s kd w3 (HPX.out _ C1.out) (HRX.out _ C1.out) HLK.out HLM.out).mono ?_
            rintro e w4 ⟨⟨p', is', hp', rfl⟩, hB4⟩
            obtain ⟨rfl, rfl⟩ := PlanN.unique (show PlanN P k R m s kd p' is' from hp') HPP.out
            have C2 := Lib.hid (C1.out.trans (hB4.mono C1.out.size))
            obtain ⟨a0', a1'⟩ := cells2t ((C2.out.block w.heap.size hzl2).trans HZ2.out)
            clear hB4 C1 hp' HPP a0 a1 b0 b1
            go_wp2_with fail
            refine (checkT_any pa k pc ra m rc P R w4 (HPT.out _ (HWX.out _ C2.out)) (HRT.out _ (HWX.out _ C2.out)) HLK.out HLM.out).mono ?_
            rw [HTE.out]
            rintro e w5 ⟨rfl, hB5⟩
            have C3 := Lib.hid (C2.out.trans (hB5.mono C2.out.size))
            obtain ⟨d0, d1⟩ := cells2t ((C3.out.block (w.heap.size + 1) hul2).trans HU2.out)
            clear hB5 C2 a0' a1'
            go_wp2_with fail
            refine (rCheckT_any va k vc xa m xc (cpP P C) R w5 (HPX.out _ C3.out) (HRX.out _ C3.out) HLK.out HLM.out).mono ?_
            rw [HTB.out]
            rintro e w6 ⟨rfl, hB6⟩
            have HF := Lib.hid (HWX.out _ (C3.out.trans (hB6.mono C3.out.size)))
            clear hB6 C3 d0 d1
            go_wp2
            go_ret
            exact ⟨rfl, HF.out⟩
set_option maxRecDepth 100000 in
set_option maxHeartbeats 2000000 in
theorem tablesW (pa : Option Addr) (pl pc : Nat) (ra : Option Addr) (rl rc : Nat) (P : Nat → Pl) (R : Nat → Ru) (s kd : Int) (w : World) (hw : (pl ≤ pc ∧ pc ≤ maxLen) ∧ (rl ≤ rc ∧ rc ≤ maxLen) ∧ PlsAt w.heap.size w pa pl P ∧ RusAt w.heap.size w ra rl R) (_h1 : (Lit.int .i64 s).wf = true) (_h2 : (Lit.int .i64 kd).wf = true) :
    Calls Try.prog 4 #[tabV pa pl pc ra rl rc, .int .i64 s, .int .i64 kd] w fun e w' => e = .returned (.bool true) ∧ Below w.heap.size w w' := by
  obtain ⟨_, _, hP, hR⟩ := hw
  by_cases h1 : 60 < pl
  · have g1 : (60 : Int) < pl := by omega
    have HB := Lib.hid ((Below.refl _ w).alloc (Nat.le_refl _) (.cells #[.slice pa pl pc, .slice ra rl rc] 41))
    clear hP hR
    go_enter Try.func4, Try.ntmps4
    go_wp2
    go_ret
    exact ⟨rfl, HB.out⟩
  by_cases h2 : 110 < rl
  · have g1 : ¬ (60 : Int) < pl := by omega
    have g2 : (110 : Int) < rl := by omega
    have HB := Lib.hid ((Below.refl _ w).alloc (Nat.le_refl _) (.cells #[.slice pa pl pc, .slice ra rl rc] 41))
    clear hP hR
    go_enter Try.func4, Try.ntmps4
    go_wp2
    go_ret
    exact ⟨rfl, HB.out⟩
  exact tablesW_few pa pl pc ra rl rc P R s kd w hP hR (by omega) (by omega)
end Go.Proofs.Ytmbimnphdhmapaa
