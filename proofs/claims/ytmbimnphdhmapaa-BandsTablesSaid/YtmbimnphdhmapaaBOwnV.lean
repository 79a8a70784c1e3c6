/- Rows of plans that a call makes. -/
import Derived.Test.YtmbimnphdhmapaaBPlan
import Derived.Test.YtmbimnphdhmapaaBOwnR
set_option linter.unusedVariables false
set_option linter.unusedSimpArgs false
namespace Go.Proofs.Ytmbimnphdhmapaa
open Go.RowKit Go.Shelf
set_option maxRecDepth 100000 in
set_option maxHeartbeats 2000000 in
theorem plan_own (a : Option Addr) (len cap : Nat) (L : Nat → Sw) (w : World) (hA : SwsAt w.heap.size w a len L) (hlm : len ≤ 100000) :
    Calls Try.prog 8 #[.slice a len cap] w fun e w' => (∃ a' c', e = .returned (.slice a' len c') ∧ OwnS w.heap.size w' (.slice a' len c') ((List.range len).map L)) ∧ Below w.heap.size w w' := by
  have HA := Lib.hid hA
  clear hA
  go_enter Try.func8, Try.ntmps8
  go_wp2
  go_loopw [3, 7] (fun v i wr => ∃ k : Nat, k ≤ len ∧ i = .int .i64 k ∧ OwnS w.heap.size wr v ((List.range k).map L) ∧ Below w.heap.size w wr) (fun _ i _ => (len - intOf i).toNat)
  case atStart => exact ⟨0, Nat.zero_le _, rfl, OwnS.nil _ _, Below.refl _ _⟩
  case round =>
    obtain ⟨k, hk, rfl, hown, hb⟩ := hrel
    have HB := Lib.hid hb
    have hs := hb.size
    by_cases hlt : k < len
    · have hlti : (k : Int) < len := by omega
      obtain ⟨b, o, rfl, hcr⟩ := (HA.out.next hb (Nat.le_refl _) (Nat.le_refl _)).base (by omega)
      obtain ⟨c0, c1⟩ := hcr k hlt
      obtain ⟨va, vc, rfl⟩ := hown.form
      obtain ⟨z, hz⟩ : ∃ z, L k = z := ⟨_, rfl⟩
      rw [hz] at c0 c1
      have HZ := Lib.hid hz
      have hoa : OwnS w.heap.size (wr.alloc (.cells #[.int .i64 z.m, .int .i64 z.b] 58)) (.slice va ((List.range k).map L).length vc) ((List.range k).map L) := hown.below ((Below.refl wr.heap.size wr).alloc (Nat.le_refl _) _) (Nat.le_refl _)
      have hr := heap_alloc_new wr (.cells #[.int .i64 z.m, .int .i64 z.b] 58)
      have HOA := Lib.hid hoa
      have hbA := HB.out.alloc hs (.cells #[.int .i64 z.m, .int .i64 z.b] 58)
      have HBA := Lib.hid hbA
      have r0 := cell_of_row _ _ 0 _ _ _ hr
      have r1 := cell_of_row _ _ 1 _ _ _ hr
      have R0 := Lib.hid r0
      have R1 := Lib.hid r1
      have hly : ((List.range k).map L).length = k := by simp
      have HLY := Lib.hid hly
      clear hown hb hcr hz hoa hr hbA r0 r1
      rw [hly]
      clear hly
      go_wp2_with (first | (at_builtin; refine wpList_bappS rfl (.tmp 10) (.tmp 15) rfl w.heap.size _ ((List.range k).map L) rfl (by have := HOA.out; rw [HLY.out] at this; exact this) wr.heap.size z rfl R0.out R1.out (by rw [HLY.out]; omega) (by rw [World.size_alloc]; omega) ?_; intro a2 c2 w2 hO2 hB2))
      rw [show (List.map L (List.range k) ++ [z]).length = k + 1 by simp] at hO2
      have HO2 := Lib.hid hO2
      have HB2 := Lib.hid (HBA.out.trans hB2)
      clear hO2 hB2
      go_wp2
      go_roundw
      case rel => exact ⟨k + 1, by omega, by go_num, by rw [List.range_succ, List.map_append, List.map_cons, List.map_nil, HZ.out]; exact HO2.out, HB2.out⟩
      case measure => first | (simp [intOf]; done) | (simp [intOf]; omega)
    · have hke : k = len := by omega
      subst hke
      obtain ⟨va, vc, rfl⟩ := hown.form
      have hly : ((List.range k).map L).length = k := by simp
      have HSW := Lib.hid hown
      rw [hly]
      rw [hly] at HSW
      clear hown hb hly
      go_wp2
      go_ret
      exact ⟨⟨va, vc, rfl, HSW.out⟩, HB.out⟩
/-- The slice value v is the call's own row of just these slices, in a block from 'base' on; or nil, and there are none. -/
def OwnV (base : Nat) (w : World) (v : Value) (xs : List Value) : Prop := w.ownsRow base 23 1 v xs.length xs
theorem OwnV.nil (base : Nat) (w : World) : OwnV base w (.slice none 0 0) [] := ⟨by simp, .inl ⟨rfl, rfl⟩⟩
theorem OwnV.form {base : Nat} {w : World} {v : Value} {xs : List Value} (h : OwnV base w v xs) : ∃ a c, v = .slice a xs.length c := by
  rcases h.2 with ⟨rfl, e⟩ | ⟨g, cap, cur, rfl, _⟩
  · exact ⟨none, 0, by rw [e]⟩
  · exact ⟨_, cap, rfl⟩
theorem OwnV.row {base : Nat} {w : World} {v : Value} {xs : List Value} (h : OwnV base w v xs) : ∀ k, v.ownBlock = some k → base ≤ k ∧ k < w.heap.size := by
  intro k hk
  rcases h.2 with ⟨rfl, e⟩ | ⟨g, cap, cur, rfl, hg, hh, _⟩
  · simp [Value.ownBlock] at hk
  · simp [Value.ownBlock] at hk; subst hk; exact ⟨hg, (Array.getElem?_eq_some_iff.1 hh).1⟩
theorem OwnV.kept {base : Nat} {w w' : World} {v : Value} {xs : List Value} (h : OwnV base w v xs) (hb : ∀ k, v.ownBlock = some k → w'.heap[k]? = w.heap[k]?) : OwnV base w' v xs := by
  refine ⟨h.1, ?_⟩
  rcases h.2 with e | ⟨g, cap, cur, rfl, hg, hh, r⟩
  · exact .inl e
  · exact .inr ⟨g, cap, cur, rfl, hg, (hb g rfl).trans hh, r⟩
theorem OwnV.cells {base n c : Nat} {a : Option Addr} {w : World} {xs : List Value} (h : OwnV base w (.slice a n c) xs) : ∀ i, i < xs.length → ∃ g, a = some ⟨g, 0, none⟩ ∧ g < w.heap.size ∧ w.cell? ⟨g, i, none⟩ = xs[i]? := by
  intro i hi
  rcases h.2 with ⟨e, e2⟩ | ⟨g, cap, cur, e, hg, hb, hn, hm, hs, ht⟩
  · omega
  · cases e
    refine ⟨g, rfl, (Array.getElem?_eq_some_iff.1 hb).1, ?_⟩
    have : xs[i]? = cur[i]? := by
      rw [← ht, List.getElem?_take_of_lt (by omega)]
      simp
    rw [this]
    simp only [World.cell?, hb]
    simp
theorem infoV : (Try.prog.info? 23).map (fun i => (i.zero, i.size, i.bytes)) = some (some (.slice none 0 0), 1, 24) := by kernel_rfl
theorem partsV : ∃ i, Try.prog.info? 23 = some i ∧ i.zero = some (.slice none 0 0) ∧ i.size = 1 ∧ i.bytes = 24 := by
  have h := infoV
  cases hi : Try.prog.info? 23 with
  | none => rw [hi] at h; cases h
  | some i => rw [hi] at h; simp at h; exact ⟨i, rfl, h.1, h.2.1, h.2.2⟩
/-- Appending one slice that lies in a block of its own, in a region that draws its order. -/
theorem wpR_OwnV {w : World} {o : Oper} {a : Act} {K : Act → World → Prop} {Q : Exit → Act → World → Prop} (hgd : o.guard = none) (s x : Operand)
    (ho : o.op = .call { callee := .builtin .append, args := #[s, x], argTypes := #[42, 42] })
    (base : Nat) (v : Value) (ls : List Value) (hs : a.eval s = v) (hown : OwnV base w v ls) (g : Nat) (z : Value) (hx : a.eval x = .slice (some ⟨g, 0, none⟩) 1 1) (hz : w.cell? ⟨g, 0, none⟩ = some z) (hz1 : z.oneCell' = true)
    (hlen : ls.length + 1 ≤ 1000000) (hbase : base ≤ w.heap.size)
    (h : ∀ a' c' w', OwnV base w' (.slice a' (ls ++ [z]).length c') (ls ++ [z]) → w.grownBy w' v.ownBlock → ((Value.slice a' (ls ++ [z]).length c').ownBlock = v.ownBlock ∨ (Value.slice a' (ls ++ [z]).length c').ownBlock = some w.heap.size) → K (a.put o.dst (.slice a' (ls ++ [z]).length c')) w') :
    o.wp Try.prog a w K Q := by
  obtain ⟨i, hi, hzz, hsz, hby⟩ := partsV
  obtain ⟨v', w', hr, h2, h3, h4, h5⟩ := run_append_own_at (P := Try.prog) w base _ o.type 23 i _ 1 24 Try.underlying42 hi hzz hsz hby rfl (by decide) v ls.length ls hown ⟨g, 0, none⟩ 1 1 [z] rfl (fun j u hj => by
    match j, hj with
    | 0, hj => simp at hj; subst hj; simpa [Addr.add] using hz) (fun u hu => by simp at hu; rw [hu]; exact hz1) (by unfold maxLen; omega) (by omega) hbase
  have hO : OwnV base w' v' (ls ++ [z]) := by
    unfold OwnV
    rw [List.length_append]
    exact h2
  obtain ⟨a', c', rfl⟩ := hO.form
  have hk := h a' c' w' hO h3 h5
  unfold Oper.wp
  simp [execOp, ho, resolve, invoke, builtin, hs, hx, hr, Result.andThen, Oper.upon]
  simpa using hk
theorem wpR_OwnVN {w : World} {o : Oper} {a : Act} {K : Act → World → Prop} {Q : Exit → Act → World → Prop} (hgd : o.guard = none) (s x : Operand)
    (ho : o.op = .call { callee := .builtin .append, args := #[s, x], argTypes := #[42, 42] })
    (base : Nat) (v : Value) (ls : List Value) (hs : a.eval s = v) (hown : OwnV base w v ls) (g : Nat) (z : Value) (hx : a.eval x = .slice (some ⟨g, 0, none⟩) 1 1) (hz : w.cell? ⟨g, 0, none⟩ = some z) (hz1 : z.oneCell' = true)
    (N : Nat) (hN : ls.length + 1 = N) (hlen : ls.length + 1 ≤ 1000000) (hbase : base ≤ w.heap.size)
    (h : ∀ a' c' w', OwnV base w' (.slice a' N c') (ls ++ [z]) → w.grownBy w' v.ownBlock → ((Value.slice a' N c').ownBlock = v.ownBlock ∨ (Value.slice a' N c').ownBlock = some w.heap.size) → K (a.put o.dst (.slice a' N c')) w') :
    o.wp Try.prog a w K Q := by
  refine wpR_OwnV hgd s x ho base v ls hs hown g z hx hz hz1 hlen hbase ?_
  rw [show (ls ++ [z]).length = N by simp [hN]]
  exact h
/-- A copy of a plan, in blocks apart from those of Nb. -/
def SwsAv (Nb : Nat → Prop) (W : World) (a : Option Addr) (len : Nat) (L : Nat → Sw) : Prop :=
  ∀ i, i < len → ∃ b o, a = some ⟨b, o, none⟩ ∧ b < W.heap.size ∧ ¬ Nb b ∧ W.cell? ⟨b, o + i * 2, none⟩ = some (.int .i64 (L i).m) ∧ W.cell? ⟨b, o + i * 2 + 1, none⟩ = some (.int .i64 (L i).b)
theorem SwsAv.sws {Nb : Nat → Prop} {W : World} {a : Option Addr} {len : Nat} {L : Nat → Sw} (h : SwsAv Nb W a len L) : SwsAt W.heap.size W a len L := fun i hi => by
  obtain ⟨b, o, e, hb, _, h0, h1⟩ := h i hi
  exact ⟨b, o, e, hb, h0, h1⟩
theorem SwsAv.kept {Nb Nb' : Nat → Prop} {W X : World} {a : Option Addr} {len : Nat} {L : Nat → Sw} (h : SwsAv Nb W a len L) (hs : W.heap.size ≤ X.heap.size) (hk : ∀ k, k < W.heap.size → ¬ Nb k → X.heap[k]? = W.heap[k]?) (hn : ∀ k, k < W.heap.size → ¬ Nb k → ¬ Nb' k) : SwsAv Nb' X a len L := fun i hi => by
  obtain ⟨b, o, e, hb, hnb, h0, h1⟩ := h i hi
  have hx : ∀ k, X.cell? ⟨b, k, none⟩ = W.cell? ⟨b, k, none⟩ := fun k => World.cell?_of_block (a := ⟨b, k, none⟩) (hk b hb hnb)
  exact ⟨b, o, e, Nat.lt_of_lt_of_le hb hs, hn b hb hnb, (hx _).trans h0, (hx _).trans h1⟩
theorem OwnS.av {base n c : Nat} {a : Option Addr} {w : World} {xs : List Sw} {Nb : Nat → Prop} (h : OwnS base w (.slice a n c) xs) (hn : ∀ k, base ≤ k → ¬ Nb k) : SwsAv Nb w a xs.length (fun i => xs.getD i ⟨0, 0⟩) := by
  intro i hi
  rcases h.2 with ⟨e, e2⟩ | ⟨g, cap, cur, e, hg, hb, hn2, hm, hs, ht⟩
  · omega
  · cases e
    obtain ⟨e0, e1⟩ := valsS_get xs i hi
    rw [← ht, List.getElem?_take_of_lt (by omega)] at e0 e1
    refine ⟨g, 0, rfl, (Array.getElem?_eq_some_iff.1 hb).1, hn g hg, ?_, ?_⟩
    · simp only [World.cell?, hb, Nat.zero_add]; simpa using e0
    · simp only [World.cell?, hb, Nat.zero_add]; simpa using e1
theorem SwsAv.fn {Nb : Nat → Prop} {W : World} {a : Option Addr} {len : Nat} {L M : Nat → Sw} (h : SwsAv Nb W a len L) (e : ∀ i, i < len → L i = M i) : SwsAv Nb W a len M := fun i hi => by
  rw [← e i hi]; exact h i hi
end Go.Proofs.Ytmbimnphdhmapaa
