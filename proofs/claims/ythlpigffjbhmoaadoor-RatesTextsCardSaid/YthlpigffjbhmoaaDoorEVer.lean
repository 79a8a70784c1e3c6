/- The program's versionIn. -/
import Derived.Test.YthlpigffjbhmoaaDoorEVerM
import Derived.Test.YthlpigffjbhmoaaDoorVSli
import Derived.Maps.OwnIn
import Derived.TacticsInMore
set_option linter.unusedVariables false
set_option linter.unusedSimpArgs false
namespace Go.Proofs.YthlpigffjbhmoaaDoor
open Go.RowKit Go.Shelf
attribute [local go_sem] Oper.semAt_some
/-- Appending prices that lie somewhere, in a round. -/
theorem wpListIn_OwnP {F : Fence} {n : Nat} {w : World} {ops : Array Oper} {rest : List Oper} {o : Oper} {a : Act} {Q : Exit → Act → World → Prop} (hgd : o.guard = none) (s x : Operand)
    (ho : o.op = .call { callee := .builtin .append, args := #[s, x], argTypes := #[38, 38] })
    (base : Nat) (v : Value) (ls : List Int) (hs : a.eval s = v) (hown : OwnP base w v ls) (ad : Addr) (m c : Nat) (zs : List Int) (hx : a.eval x = .slice (some ad) m c) (hm : zs.length = m) (hz : ∀ j u, (valsP zs)[j]? = some u → w.cell? (ad.add j) = some u)
    (N : Nat) (hN : ls.length + m = N) (hlen : N ≤ 1000000) (hbase : base ≤ w.heap.size)
    (h : ∀ a' c' w', OwnP base w' (.slice a' N c') (ls ++ zs) → w.grownBy w' v.ownBlock → wpListIn F n Tryd.prog ops Q rest (a.put o.dst (.slice a' N c')) w') : wpListIn F n Tryd.prog ops Q (o :: rest) a w := by
  obtain ⟨i, hi, hzz, hsz, hby⟩ := partsP
  refine wpListIn_append_own w hgd s x _ ho base 2 i _ 1 8 Tryd.underlying38 hi hzz hsz hby rfl (by decide) v ls.length (valsP ls) hs hown ad m c (valsP zs) hx (by simp [valsP, hm]) hz valsP_one (by unfold maxLen; omega) (by omega) hbase ?_
  intro v' w' h2 h3 _
  have hO : OwnP base w' v' (ls ++ zs) := by
    have e : valsP ls ++ valsP zs = valsP (ls ++ zs) := by simp [valsP]
    unfold OwnP
    rw [← e, List.length_append, hm]
    exact h2
  obtain ⟨a', c', rfl, _⟩ := hO.form
  rw [show (ls ++ zs).length = N by rw [List.length_append, hm, hN]] at hO ⊢
  exact h a' c' w' hO h3
/-- What versionIn answers. -/
def VerE (B : Nat) (s : List UInt8) (e : Ending) (w' : World) : Prop := ∃ (v : Ve) (a : Option Addr) (c : Nat) (ok : Bool), e = .returned (.tuple #[verV v.f a v.ps.length c, .bool ok]) ∧ OwnP B w' (.slice a v.ps.length c) v.ps ∧ VerIs s v ok
theorem VerE.no {B : Nat} {s : List UInt8} {w' : World} (h : ∀ u, VerMay u → s ≠ lineL u) : VerE B s (.returned (.tuple #[verV 0 none 0 0, .bool false])) w' :=
  ⟨⟨0, []⟩, none, 0, false, rfl, OwnP.nil _ _, (fun h => by cases h), fun _ => h⟩
theorem two_new (w : World) : ((w.alloc (.cells #[.int .i64 0, .slice none 0 0] 42)).alloc (.cells #[.bool false] 4)).heap.size = w.heap.size + 2 ∧ Below w.heap.size w ((w.alloc (.cells #[.int .i64 0, .slice none 0 0] 42)).alloc (.cells #[.bool false] 4)) ∧
    ((w.alloc (.cells #[.int .i64 0, .slice none 0 0] 42)).alloc (.cells #[.bool false] 4)).heap[w.heap.size]? = some (.cells #[.int .i64 0, .slice none 0 0] 42 (0, 0)) ∧
    ((w.alloc (.cells #[.int .i64 0, .slice none 0 0] 42)).alloc (.cells #[.bool false] 4)).heap[w.heap.size + 1]? = some (.cells #[.bool false] 4 (0, 0)) := by
  refine ⟨by simp, ((Below.refl _ w).alloc (Nat.le_refl _) _).alloc (by simp) _, heap_old (heap_alloc_new w _) _, ?_⟩
  have := heap_alloc_new (w.alloc (.cells #[.int .i64 0, .slice none 0 0] 42)) (.cells #[.bool false] 4)
  rwa [World.size_alloc] at this
/-- Storing what lies in both boxes. -/
theorem set_same {W : World} {b : Nat} (h0 : W.heap[b]? = some (.cells #[.int .i64 0, .slice none 0 0] 42 (0, 0))) (h1 : W.heap[b + 1]? = some (.cells #[.bool false] 4 (0, 0))) :
    (((W.setCell ⟨b, 0, none⟩ (.int .i64 0)).setCell ⟨b, 1, none⟩ (.slice none 0 0)).setCell ⟨b + 1, 0, none⟩ (.bool false)).heap[b]? = some (.cells #[.int .i64 0, .slice none 0 0] 42 (0, 0)) ∧
    (((W.setCell ⟨b, 0, none⟩ (.int .i64 0)).setCell ⟨b, 1, none⟩ (.slice none 0 0)).setCell ⟨b + 1, 0, none⟩ (.bool false)).heap[b + 1]? = some (.cells #[.bool false] 4 (0, 0)) := by
  refine ⟨(heap_setCell_other _ ⟨b + 1, 0, none⟩ b _ (by show b ≠ b + 1; omega)).trans (heap_setCell_same _ b 1 _ _ _ (heap_setCell_same _ b 0 _ _ _ h0)), heap_setCell_same _ (b + 1) 0 _ _ _ ((heap_setCell_other _ ⟨b, 1, none⟩ (b + 1) _ (by show b + 1 ≠ b; omega)).trans ((heap_setCell_other _ ⟨b, 0, none⟩ (b + 1) _ (by show b + 1 ≠ b; omega)).trans h1))⟩
set_option maxRecDepth 100000 in
set_option maxHeartbeats 4000000 in
theorem ver_a (s : List UInt8) (hs : s.length ≤ 1000000) (hno : Lib.hasSuffix s [10] = false) (w : World) : Calls Tryd.prog 29 #[strL s] w fun e w' => VerE w.heap.size s e w' ∧ Below w.heap.size w w' := by
  have hsf := fun W => suffix_any s hs W
  rw [hno] at hsf
  obtain ⟨c, hc⟩ : ∃ c, Lib.trimSuffix s [10] = c := ⟨_, rfl⟩
  rw [hc] at hsf
  have HSF := Lib.hid hsf
  have HNO := Lib.hid (ver_nosuf hno)
  have HTW := Lib.hid (two_new w)
  clear hsf hc hno
  go_enter Tryd.func29, Tryd.ntmps29
  go_wp2_with fail
  refine (HSF.out _).mono ?_
  rintro e w1 ⟨rfl, rfl⟩
  go_wp2
  refine bodyPost_ret (results_v rfl rfl HTW.out.2.2.1 HTW.out.2.2.2) rfl ?_
  exact ⟨VerE.no (fun u _ => HNO.out u), HTW.out.2.1⟩
set_option maxRecDepth 100000 in
set_option maxHeartbeats 4000000 in
theorem ver_b (s c : List UInt8) (hs : s.length ≤ 1000000) (hsc : s = c ++ [10]) (hyes : Lib.hasSuffix s [10] = true) (htr : Lib.trimSuffix s [10] = c) (hno : (32 : UInt8) ∉ c) (hcut : Lib.cut c [32] = (c, [], false)) (w : World) (hT : TabsD w) : Calls Tryd.prog 29 #[strL s] w fun e w' => VerE w.heap.size s e w' ∧ Below w.heap.size w w' := by
  have hsf := fun W => suffix_any s hs W
  rw [hyes, htr] at hsf
  have HSF := Lib.hid hsf
  have hct := fun W (hB : Below w.heap.size w W) => cut_any c (by rw [hsc] at hs; simp at hs; omega) W (hT.next hB (Nat.le_refl _))
  rw [hcut] at hct
  simp only at hct
  have HCT := Lib.hid hct
  have HNO := Lib.hid (show ∀ u, VerMay u → s ≠ lineL u by rw [hsc]; exact ver_nocut hno)
  have HTW := Lib.hid (two_new w)
  clear hsf hct hsc hyes htr hno hcut hT
  go_enter Tryd.func29, Tryd.ntmps29
  go_wp2_with fail
  refine (HSF.out _).mono ?_
  rintro e w1 ⟨rfl, rfl⟩
  go_wp2_with fail
  refine (HCT.out _ HTW.out.2.1).mono ?_
  rintro e w2 ⟨rfl, hB⟩
  have hs2 := HTW.out.1
  have h0 := (hB.block w.heap.size (by omega)).trans HTW.out.2.2.1
  have h1 := (hB.block (w.heap.size + 1) (by omega)).trans HTW.out.2.2.2
  have HS := Lib.hid (set_same h0 h1)
  have HB2 := Lib.hid (HTW.out.2.1.trans (hB.mono HTW.out.2.1.size))
  have c0 : w2.cell? ⟨w.heap.size, 0, none⟩ = some (.int .i64 0) := cell_of_row _ _ 0 _ _ _ h0
  have c1 : w2.cell? ⟨w.heap.size, 1, none⟩ = some (.slice none 0 0) := cell_of_row _ _ 1 _ _ _ h0
  have c2 : w2.cell? ⟨w.heap.size + 1, 0, none⟩ = some (.bool false) := cell_of_row _ _ 0 _ _ _ h1
  have f0 := frozen_of_row w2 _ 0 _ _ h0
  have f1 := frozen_of_row w2 _ 1 _ _ h0
  have f2 := frozen_of_row w2 _ 0 _ _ h1
  clear hB hs2 h0 h1
  go_wp2
  refine bodyPost_ret (results_v rfl rfl HS.out.1 HS.out.2) rfl ?_
  exact ⟨VerE.no HNO.out, ((HB2.out.setCell (p := ⟨w.heap.size, 0, none⟩) (Nat.le_refl _) _).setCell (p := ⟨w.heap.size, 1, none⟩) (Nat.le_refl _) _).setCell (p := ⟨w.heap.size + 1, 0, none⟩) (Nat.le_succ _) _⟩
set_option maxRecDepth 100000 in
set_option maxHeartbeats 4000000 in
theorem ver_c (s a b : List UInt8) (hs : s.length ≤ 1000000) (hsc : s = (a ++ 32 :: b) ++ [10]) (hyes : Lib.hasSuffix s [10] = true) (htr : Lib.trimSuffix s [10] = a ++ 32 :: b) (ha : (32 : UInt8) ∉ a) (hcut : Lib.cut (a ++ 32 :: b) [32] = (a, b, true)) (hbad : ∀ m, I64 m → a ≠ Lib.itoa m) (w : World) (hT : TabsD w) : Calls Tryd.prog 29 #[strL s] w fun e w' => VerE w.heap.size s e w' ∧ Below w.heap.size w w' := by
  have hl : a.length + 1 + b.length ≤ 1000000 := by rw [hsc] at hs; simp at hs; omega
  have hsf := fun W => suffix_any s hs W
  rw [hyes, htr] at hsf
  have HSF := Lib.hid hsf
  have hct := fun W (hB : Below w.heap.size w W) => cut_any (a ++ 32 :: b) (by simp; omega) W (hT.next hB (Nat.le_refl _))
  rw [hcut] at hct
  simp only at hct
  have HCT := Lib.hid hct
  have HNI := Lib.hid (fun W (hB : Below w.heap.size w W) => numberIn_any ⟨a.toArray⟩ (by show a.toArray.size ≤ _; simp; omega) W (hT.next hB (Nat.le_refl _)))
  have HNO := Lib.hid (show ∀ u, VerMay u → s ≠ lineL u by rw [hsc]; exact ver_nofrom ha hbad)
  have HTW := Lib.hid (two_new w)
  have HBAD := Lib.hid hbad
  obtain ⟨cc, hcc⟩ : ∃ cc, a ++ 32 :: b = cc := ⟨_, rfl⟩
  rw [hcc] at HSF HCT
  clear hsf hct hsc hyes htr ha hcut hT hbad hcc hl
  go_enter Tryd.func29, Tryd.ntmps29
  go_wp2_with fail
  refine (HSF.out _).mono ?_
  rintro e w1 ⟨rfl, rfl⟩
  go_wp2_with fail
  refine (HCT.out _ HTW.out.2.1).mono ?_
  rintro e w2 ⟨rfl, hB⟩
  have hs2 := HTW.out.1
  have H0 := Lib.hid ((hB.block w.heap.size (by omega)).trans HTW.out.2.2.1)
  have H1 := Lib.hid ((hB.block (w.heap.size + 1) (by omega)).trans HTW.out.2.2.2)
  have HSZ := Lib.hid (show w.heap.size + 2 ≤ w2.heap.size by have := hB.size; omega)
  have HB2 := Lib.hid (HTW.out.2.1.trans (hB.mono HTW.out.2.1.size))
  clear hB hs2
  go_wp2_with fail
  refine (HNI.out _ HB2.out).mono ?_
  rintro e w3 ⟨⟨n, ok, hnum, rfl⟩, hB⟩
  cases ok with
  | true => exact absurd (hnum.1 rfl).2 (HBAD.out n (hnum.1 rfl).1)
  | false =>
    have hsz := HSZ.out
    have h0 := (hB.block w.heap.size (by omega)).trans H0.out
    have h1 := (hB.block (w.heap.size + 1) (by omega)).trans H1.out
    have HS := Lib.hid (set_same h0 h1)
    have HB3 := Lib.hid (HB2.out.trans (hB.mono HB2.out.size))
    have c0 : w3.cell? ⟨w.heap.size, 0, none⟩ = some (.int .i64 0) := cell_of_row _ _ 0 _ _ _ h0
    have c1 : w3.cell? ⟨w.heap.size, 1, none⟩ = some (.slice none 0 0) := cell_of_row _ _ 1 _ _ _ h0
    have c2 : w3.cell? ⟨w.heap.size + 1, 0, none⟩ = some (.bool false) := cell_of_row _ _ 0 _ _ _ h1
    have f0 := frozen_of_row w3 _ 0 _ _ h0
    have f1 := frozen_of_row w3 _ 1 _ _ h0
    have f2 := frozen_of_row w3 _ 0 _ _ h1
    clear hB h0 h1 hnum hsz
    go_wp2
    refine bodyPost_ret (results_v rfl rfl HS.out.1 HS.out.2) rfl ?_
    exact ⟨VerE.no HNO.out, ((HB3.out.setCell (p := ⟨w.heap.size, 0, none⟩) (Nat.le_refl _) _).setCell (p := ⟨w.heap.size, 1, none⟩) (Nat.le_refl _) _).setCell (p := ⟨w.heap.size + 1, 0, none⟩) (Nat.le_succ _) _⟩
end Go.Proofs.YthlpigffjbhmoaaDoor
