/- A list of switches that a call makes, and the statements' plan. -/
import Derived.Test.YtmbimnphdhmapaaDoorBMay
set_option linter.unusedVariables false
set_option linter.unusedSimpArgs false
namespace Go.Proofs.YtmbimnphdhmapaaDoor
open Go.RowKit Go.Shelf
def valsS (xs : List Sw) : List Value := xs.flatMap fun s => [.int .i64 s.m, .int .i64 s.b]
theorem valsS_len (xs : List Sw) : (valsS xs).length = xs.length * 2 := by
  induction xs with
  | nil => rfl
  | cons s xs ih => unfold valsS at ih ⊢; simp only [List.flatMap_cons, List.length_append, List.length_cons, List.length_nil, ih]; omega
theorem valsS_app (xs ys : List Sw) : valsS xs ++ valsS ys = valsS (xs ++ ys) := by simp [valsS]
theorem valsS_get (xs : List Sw) (j : Nat) (h : j < xs.length) : (valsS xs)[j * 2]? = some (.int .i64 (xs.getD j ⟨0, 0⟩).m) ∧ (valsS xs)[j * 2 + 1]? = some (.int .i64 (xs.getD j ⟨0, 0⟩).b) := by
  induction xs generalizing j with
  | nil => simp at h
  | cons s xs ih =>
    cases j with
    | zero => simp [valsS]
    | succ j =>
      have := ih j (by simpa using h)
      rw [show (j + 1) * 2 = j * 2 + 1 + 1 by omega]
      simpa [valsS] using this
/-- The slice value v is the call's own row of just these switches, in a block from 'base' on; or nil, and there are none. -/
def OwnS (base : Nat) (w : World) (v : Value) (xs : List Sw) : Prop := w.ownsRow base 55 2 v xs.length (valsS xs)
theorem OwnS.nil (base : Nat) (w : World) : OwnS base w (.slice none 0 0) [] := ⟨by simp [valsS], .inl ⟨rfl, rfl⟩⟩
theorem OwnS.form {base : Nat} {w : World} {v : Value} {xs : List Sw} (h : OwnS base w v xs) : ∃ a c, v = .slice a xs.length c := by
  rcases h.2 with ⟨rfl, e⟩ | ⟨g, cap, cur, rfl, _⟩
  · exact ⟨none, 0, by rw [e]⟩
  · exact ⟨_, cap, rfl⟩
theorem OwnS.row {base : Nat} {w : World} {v : Value} {xs : List Sw} (h : OwnS base w v xs) : ∀ k, v.ownBlock = some k → base ≤ k := by
  intro k hk
  rcases h.2 with ⟨rfl, e⟩ | ⟨g, cap, cur, rfl, hg, _⟩
  · simp [Value.ownBlock] at hk
  · simp [Value.ownBlock] at hk; omega
theorem OwnS.below {base B : Nat} {w w' : World} {v : Value} {xs : List Sw} (h : OwnS base w v xs) (hb : Below B w w') (hB : w.heap.size ≤ B) : OwnS base w' v xs := by
  refine ⟨h.1, ?_⟩
  rcases h.2 with e | ⟨g, cap, cur, rfl, hg, hh, r⟩
  · exact .inl e
  · have hlt : g < w.heap.size := (Array.getElem?_eq_some_iff.1 hh).1
    exact .inr ⟨g, cap, cur, rfl, hg, (hb.block g (by omega)).trans hh, r⟩
theorem OwnS.sws {base n c : Nat} {a : Option Addr} {w : World} {xs : List Sw} (h : OwnS base w (.slice a n c) xs) : SwsAt w.heap.size w a xs.length (fun i => xs.getD i ⟨0, 0⟩) := by
  intro i hi
  rcases h.2 with ⟨e, e2⟩ | ⟨g, cap, cur, e, hg, hb, hn, hm, hs, ht⟩
  · omega
  · cases e
    obtain ⟨e0, e1⟩ := valsS_get xs i hi
    rw [← ht, List.getElem?_take_of_lt (by omega)] at e0 e1
    refine ⟨g, 0, rfl, (Array.getElem?_eq_some_iff.1 hb).1, ?_, ?_⟩
    · simp only [World.cell?, hb, Nat.zero_add]; simpa using e0
    · simp only [World.cell?, hb, Nat.zero_add]; simpa using e1
theorem infoS : (Tryd.prog.info? 55).map (fun i => (i.zero, i.size, i.bytes)) = some (some (.agg #[.int .i64 0, .int .i64 0]), 2, 16) := by kernel_rfl
theorem partsS : ∃ i, Tryd.prog.info? 55 = some i ∧ i.zero = some (.agg #[.int .i64 0, .int .i64 0]) ∧ i.size = 2 ∧ i.bytes = 16 := by
  have h := infoS
  cases hi : Tryd.prog.info? 55 with
  | none => rw [hi] at h; cases h
  | some i => rw [hi] at h; simp at h; exact ⟨i, rfl, h.1, h.2.1, h.2.2⟩
/-- Appending one switch that lies in a block of its own. -/
theorem wpList_bappS {w : World} {ops : Array Oper} {rest : List Oper} {o : Oper} {a : Act} {Q : Exit → Act → World → Prop} (hgd : o.guard = none) (s x : Operand)
    (ho : o.op = .call { callee := .builtin .append, args := #[s, x], argTypes := #[28, 28] })
    (base : Nat) (v : Value) (ys : List Sw) (hs : a.eval s = v) (hown : OwnS base w v ys) (g : Nat) (z : Sw) (hx : a.eval x = .slice (some ⟨g, 0, none⟩) 1 1) (h0 : w.cell? ⟨g, 0, none⟩ = some (.int .i64 z.m)) (h1 : w.cell? ⟨g, 1, none⟩ = some (.int .i64 z.b))
    (hlen : ys.length ≤ 1000000) (hbase : base ≤ w.heap.size)
    (h : ∀ a' c' w', OwnS base w' (.slice a' (ys ++ [z]).length c') (ys ++ [z]) → Below base w w' → wpList Tryd.prog ops Q rest (a.put o.dst (.slice a' (ys ++ [z]).length c')) w') : wpList Tryd.prog ops Q (o :: rest) a w := by
  obtain ⟨i, hi, hz, hsz, hby⟩ := partsS
  refine wpList_append_own_at w hgd s x _ ho base 55 i _ 2 16 Tryd.underlying28 hi hz hsz hby rfl (by decide) v ys.length (valsS ys) hs hown ⟨g, 0, none⟩ 1 1 [.int .i64 z.m, .int .i64 z.b] hx rfl ?_ ?_ (by unfold maxLen; omega) (by omega) hbase ?_
  · intro j u hj
    match j, hj with
    | 0, hj => simp at hj; subst hj; simpa [Addr.add] using h0
    | 1, hj => simp at hj; subst hj; simpa [Addr.add] using h1
  · intro u hu
    simp at hu
    rcases hu with rfl | rfl <;> rfl
  · intro v' w' h2 h3 _ _
    have hO : OwnS base w' v' (ys ++ [z]) := by
      have e := valsS_app ys [z]
      unfold OwnS
      rw [← e, List.length_append]
      exact h2
    obtain ⟨a', c', rfl⟩ := hO.form
    exact h a' c' w' hO ((Below.refl _ _).grown h3 hbase hown.row)
set_option maxRecDepth 100000 in
set_option maxHeartbeats 2000000 in
theorem plan_any (a : Option Addr) (len cap : Nat) (L : Nat → Sw) (w : World) (hA : SwsAt w.heap.size w a len L) (hlm : len ≤ 100000) :
    Calls Tryd.prog 8 #[.slice a len cap] w fun e w' => (∃ a' c', e = .returned (.slice a' len c') ∧ SwsAt w'.heap.size w' a' len L) ∧ Below w.heap.size w w' := by
  have HA := Lib.hid hA
  clear hA
  go_enter Tryd.func8, Tryd.ntmps8
  go_wp2
  go_loopw [3, 7] (fun v i wr => ∃ k : Nat, k ≤ len ∧ i = .int .i64 k ∧ OwnS w.heap.size wr v ((List.range k).map L) ∧ Below w.heap.size w wr) (fun _ i _ => (len - intOf i).toNat)
  case atStart => exact ⟨0, Nat.zero_le _, rfl, OwnS.nil _ _, Below.refl _ _⟩
  case round =>
    obtain ⟨k, hk, rfl, hown, hb⟩ := hrel
    have HB := Lib.hid hb
    have hs := hb.size
    by_cases hlt : k < len
    · have hlti : (k : Int) < len := by omega
      obtain ⟨b, o, rfl, hcr⟩ := (HA.out.next hb (Nat.le_refl _) (Nat.le_refl _)).base (by omega)
      obtain ⟨c0, c1⟩ := hcr k hlt
      obtain ⟨va, vc, rfl⟩ := hown.form
      obtain ⟨z, hz⟩ : ∃ z, L k = z := ⟨_, rfl⟩
      rw [hz] at c0 c1
      have HZ := Lib.hid hz
      have hoa : OwnS w.heap.size (wr.alloc (.cells #[.int .i64 z.m, .int .i64 z.b] 55)) (.slice va ((List.range k).map L).length vc) ((List.range k).map L) := hown.below ((Below.refl wr.heap.size wr).alloc (Nat.le_refl _) _) (Nat.le_refl _)
      have hr := heap_alloc_new wr (.cells #[.int .i64 z.m, .int .i64 z.b] 55)
      have HOA := Lib.hid hoa
      have hbA := HB.out.alloc hs (.cells #[.int .i64 z.m, .int .i64 z.b] 55)
      have HBA := Lib.hid hbA
      have r0 := cell_of_row _ _ 0 _ _ _ hr
      have r1 := cell_of_row _ _ 1 _ _ _ hr
      have R0 := Lib.hid r0
      have R1 := Lib.hid r1
      have hly : ((List.range k).map L).length = k := by simp
      have HLY := Lib.hid hly
      clear hown hb hcr hz hoa hr hbA r0 r1
      rw [hly]
      clear hly
      go_wp2_with (first | (at_builtin; refine wpList_bappS rfl (.tmp 10) (.tmp 15) rfl w.heap.size _ ((List.range k).map L) rfl (by have := HOA.out; rw [HLY.out] at this; exact this) wr.heap.size z rfl R0.out R1.out (by rw [HLY.out]; omega) (by rw [World.size_alloc]; omega) ?_; intro a2 c2 w2 hO2 hB2))
      rw [show (List.map L (List.range k) ++ [z]).length = k + 1 by simp] at hO2
      have HO2 := Lib.hid hO2
      have HB2 := Lib.hid (HBA.out.trans hB2)
      clear hO2 hB2
      go_wp2
      go_roundw
      case rel => exact ⟨k + 1, by omega, by go_num, by rw [List.range_succ, List.map_append, List.map_cons, List.map_nil, HZ.out]; exact HO2.out, HB2.out⟩
      case measure => first | (simp [intOf]; done) | (simp [intOf]; omega)
    · have hke : k = len := by omega
      subst hke
      obtain ⟨va, vc, rfl⟩ := hown.form
      have hly : ((List.range k).map L).length = k := by simp
      have hsw := hown.sws
      rw [hly] at hsw ⊢
      have HSW := Lib.hid hsw
      clear hown hb hly hsw
      go_wp2
      go_ret
      refine ⟨⟨va, vc, rfl, fun i hi => ?_⟩, HB.out⟩
      have h := HSW.out i hi
      simpa [List.getD, hi] using h
end Go.Proofs.YtmbimnphdhmapaaDoor
