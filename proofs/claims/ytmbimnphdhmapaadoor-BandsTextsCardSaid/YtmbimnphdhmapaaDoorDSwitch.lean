/- The contract of switchIn. -/
import Derived.Test.YtmbimnphdhmapaaDoorDNumber
import Derived.Test.YtmbimnphdhmapaaDoorDSplit
set_option linter.unusedVariables false
set_option linter.unusedSimpArgs false
namespace Go.Proofs.YtmbimnphdhmapaaDoor
open Go.RowKit Go.Shelf
abbrev swVal (x : Sw) : Value := .agg #[.int .i64 x.m, .int .i64 x.b]
def SwE (l : List UInt8) (e : Ending) : Prop := ∃ x ok, SwIs l x ok ∧ e = .returned (.tuple #[swVal x, .bool ok])
theorem SwE.mk {l : List UInt8} {m b : Int} {ok : Bool} (h : SwIs l ⟨m, b⟩ ok) : SwE l (.returned (.tuple #[.agg #[.int .i64 m, .int .i64 b], .bool ok])) := ⟨⟨m, b⟩, ok, h, rfl⟩
theorem sw_none {l : List UInt8} (h : (58 : UInt8) ∉ l) : SwIs l ⟨0, 0⟩ false := ⟨fun q => (by cases q), fun _ y _ e => h (by rw [e]; unfold swL; simp)⟩
theorem sw_both {a b : List UInt8} {m n : Int} {o o' : Bool} (ha : (58 : UInt8) ∉ a) (h : NumIs a m o) (h' : NumIs b n o') : SwIs (a ++ 58 :: b) ⟨m, n⟩ (o && o') := by
  refine ⟨fun q => ?_, fun q y hy e => ?_⟩
  · obtain ⟨rfl, rfl⟩ := (Bool.and_eq_true _ _ ▸ q : o = true ∧ o' = true)
    obtain ⟨h1, h2⟩ := h.1 rfl
    obtain ⟨h3, h4⟩ := h'.1 rfl
    exact ⟨⟨h1, h3⟩, by unfold swL; rw [h2, h4]⟩
  · obtain ⟨e1, e2⟩ := split_unique ha (itoa_no (.inr rfl)) e
    cases o with
    | false => exact h.2 rfl _ hy.1 e1
    | true => cases o' with
      | false => exact h'.2 rfl _ hy.2 e2
      | true => cases q
theorem set2 {Z : World} {B : Nat} {x y : Value} {T : TypeId} (h : Z.heap[B]? = some (.cells #[x, y] T (0, 0))) (a b : Value) :
    ((Z.setCell ⟨B, 0, none⟩ a).setCell ⟨B, 1, none⟩ b).heap[B]? = some (.cells #[a, b] T (0, 0)) := heap_setCell_same _ B 1 _ _ _ (heap_setCell_same _ B 0 _ _ _ h)
theorem results_si {m n : Int} {ok : Bool} {b : Nat} {tmps : Array Value} {w : World} (h2 : tmps.getD 2 undef = .pointer (some ⟨b, 0, none⟩)) (h3 : tmps.getD 3 undef = .bool ok)
    (hb : w.heap[b]? = some (.cells #[.int .i64 m, .int .i64 n] 39 (0, 0))) : (results Tryd.f23 tmps).run Tryd.prog w = .ok (.tuple #[.agg #[.int .i64 m, .int .i64 n], .bool ok]) w := by
  have c0 : w.cell? ⟨b, 0, none⟩ = some (.int .i64 m) := cell_of_row _ b 0 _ _ _ hb
  have c1 : w.cell? ⟨b, 1, none⟩ = some (.int .i64 n) := cell_of_row _ b 1 _ _ _ hb
  simp only [Array.getD_eq_getD_getElem?] at h2 h3
  simp [results, Tryd.results23, go_sem, h2, h3, c0, c1]
set_option maxRecDepth 100000 in
set_option maxHeartbeats 2000000 in
theorem switchIn_any (s : ByteArray) (hs : s.size ≤ 1000000) (w : World) (hT : TabsD w) : Calls Tryd.prog 23 #[.string s] w fun e w' => SwE s.data.toList e ∧ Below w.heap.size w w' := by
  have HB0 := Lib.hid ((Below.refl _ w).alloc (Nat.le_refl _) (.cells #[.int .i64 0, .int .i64 0] 39))
  have HZ0 := Lib.hid (heap_alloc_new w (.cells #[.int .i64 0, .int .i64 0] 39))
  have HT0 := Lib.hid (hT.next HB0.out (Nat.le_refl _))
  obtain ⟨ml, hml⟩ := HT0.out.ml
  have HC := Lib.hid (strings_Cut s ⟨#[58]⟩ ml _ (by omega) hml)
  clear hT hml
  go_enter Tryd.func23, Tryd.ntmps23
  rcases cut_split 58 s.data.toList with ⟨hc, hn⟩ | ⟨a, b, hl, hn, hc⟩
  · have hc' : Lib.cut s.data.toList (⟨#[58]⟩ : ByteArray).data.toList = (s.data.toList, [], false) := hc
    rw [hc'] at HC
    have HN := Lib.hid (sw_none hn)
    clear hc hc' hn
    go_wp2_with fail
    refine HC.out.mono ?_
    rintro e w1 ⟨rfl, k, rfl⟩
    have hz1 : ((w.alloc (.cells #[.int .i64 0, .int .i64 0] 39)).drewN k).heap[w.heap.size]? = some (.cells #[.int .i64 0, .int .i64 0] 39 (0, 0)) := HZ0.out
    obtain ⟨W, hW⟩ : ∃ W, (w.alloc (.cells #[.int .i64 0, .int .i64 0] 39)).drewN k = W := ⟨_, rfl⟩
    have HBW : Hid (Below w.heap.size w W) := Lib.hid (by rw [← hW]; exact HB0.out.trans (below_drew' _ k |>.mono HB0.out.size))
    rw [hW] at hz1 ⊢
    clear hW HC
    have f0 := frozen_of_row _ _ 0 _ _ hz1
    have f1 := frozen_of_row _ _ 1 _ _ hz1
    have c0 : W.cell? ⟨w.heap.size, 0, none⟩ = some (.int .i64 0) := cell_of_row _ _ 0 _ _ _ hz1
    have c1 : W.cell? ⟨w.heap.size, 1, none⟩ = some (.int .i64 0) := cell_of_row _ _ 1 _ _ _ hz1
    have hset := set2 hz1 (.int .i64 0) (.int .i64 0)
    go_wp2_with fail
    refine bodyPost_ret (results_si rfl rfl hset) rfl ?_
    exact ⟨SwE.mk HN.out, (HBW.out.setCell (p := ⟨w.heap.size, 0, none⟩) (Nat.le_refl _) _).setCell (p := ⟨w.heap.size, 1, none⟩) (Nat.le_refl _) _⟩
  · have hc' : Lib.cut s.data.toList (⟨#[58]⟩ : ByteArray).data.toList = (a, b, true) := hc
    rw [hc'] at HC
    have hla : a.length ≤ 1000000 ∧ b.length ≤ 1000000 := by
      have : s.data.toList.length ≤ 1000000 := by simpa using hs
      rw [hl] at this
      simp at this
      omega
    have HL := Lib.hid hl
    have HN := Lib.hid hn
    have HLA := Lib.hid hla
    clear hc hc' hn hl hla
    go_wp2_with fail
    refine HC.out.mono ?_
    rintro e w1 ⟨rfl, k, rfl⟩
    have hz1 : ((w.alloc (.cells #[.int .i64 0, .int .i64 0] 39)).drewN k).heap[w.heap.size]? = some (.cells #[.int .i64 0, .int .i64 0] 39 (0, 0)) := HZ0.out
    obtain ⟨W, hW⟩ : ∃ W, (w.alloc (.cells #[.int .i64 0, .int .i64 0] 39)).drewN k = W := ⟨_, rfl⟩
    have HBW : Hid (Below (w.heap.size + 1) (w.alloc (.cells #[.int .i64 0, .int .i64 0] 39)) W) := Lib.hid (by rw [← hW, ← World.size_alloc w (.cells #[.int .i64 0, .int .i64 0] 39)]; exact below_drew' _ k)
    rw [hW] at hz1 ⊢
    have HTW := Lib.hid (HT0.out.next HBW.out (by rw [World.size_alloc]; omega))
    have HSW := Lib.hid (show w.heap.size + 1 ≤ W.heap.size by have := HBW.out.size; rw [World.size_alloc] at this; exact this)
    have HZW := Lib.hid hz1
    clear hW HC hz1
    go_wp2_with fail
    refine (numberIn_any ⟨a.toArray⟩ (by have := HLA.out.1; show a.toArray.size ≤ _; simpa using this) W HTW.out).mono ?_
    rintro e w2 ⟨⟨m, o, hm, rfl⟩, hB2⟩
    have HM := Lib.hid (show NumIs a m o from hm)
    have HB2 := Lib.hid hB2
    have HT2 := Lib.hid (HTW.out.next hB2 (Nat.le_refl _))
    clear hm hB2
    go_wp2_with fail
    refine (numberIn_any ⟨b.toArray⟩ (by have := HLA.out.2; show b.toArray.size ≤ _; simpa using this) w2 HT2.out).mono ?_
    rintro e w3 ⟨⟨n, o', hn, rfl⟩, hB3⟩
    have HB3 := Lib.hid (HB2.out.trans (hB3.mono HB2.out.size))
    have hz3 := (HB3.out.block w.heap.size (by have := HSW.out; omega)).trans HZW.out
    have HS := Lib.hid (sw_both HN.out HM.out (show NumIs b n o' from hn))
    rw [← HL.out] at HS
    have f0 := frozen_of_row _ _ 0 _ _ hz3
    have f1 := frozen_of_row _ _ 1 _ _ hz3
    have c0 : w3.cell? ⟨w.heap.size, 0, none⟩ = some (.int .i64 0) := cell_of_row _ _ 0 _ _ _ hz3
    have c1 : w3.cell? ⟨w.heap.size, 1, none⟩ = some (.int .i64 0) := cell_of_row _ _ 1 _ _ _ hz3
    have HF := Lib.hid (HB0.out.trans ((HBW.out.mono (Nat.le_succ _)).trans (HB3.out.mono (by have := HSW.out; omega))))
    have HSET := Lib.hid (set2 hz3 (.int .i64 m) (.int .i64 n))
    clear hn hB3 hz3
    cases o <;> cases o'
    all_goals
      go_wp2_with fail
      refine bodyPost_ret (results_si rfl rfl HSET.out) rfl ?_
      exact ⟨SwE.mk HS.out, (HF.out.setCell (p := ⟨w.heap.size, 0, none⟩) (Nat.le_refl _) _).setCell (p := ⟨w.heap.size, 1, none⟩) (Nat.le_refl _) _⟩
end Go.Proofs.YtmbimnphdhmapaaDoor
