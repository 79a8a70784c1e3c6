/- The document's device: At. -/
import Derived.Test.YteopbeafhhfdoaaPNew
set_option linter.unusedVariables false
set_option linter.unusedSimpArgs false
namespace Go.Proofs.Yteopbeafhhfdoaa
open Go.RowKit Go.Maps
/-- Appending, the length told by a number of one's own. -/
theorem bapp8N {w : World} {ops : Array Oper} {rest : List Oper} {o : Oper} {a : Act} {Q : Exit → Act → World → Prop} (hgd : o.guard = none) (s x : Operand)
    (ho : o.op = .call { callee := .builtin .append, args := #[s, x], argTypes := #[32, 32] })
    (base : Nat) (v : Value) (ys : List Int) (hs : a.eval s = v) (hown : Own8 base w v ys) (B : Nat) (A : Option Addr) (m c : Nat) (xs : List Int) (hx : a.eval x = .slice A m c) (hb : Bys8 B w (.slice A m c) xs)
    (N : Nat) (hN : (ys ++ xs).length = N) (hlen : N ≤ 10000000000000) (hbase : base ≤ w.heap.size)
    (h : ∀ a' c' w', Own8 base w' (.slice a' N c') (ys ++ xs) → Below base w w' → wpList Try.prog ops Q rest (a.put o.dst (.slice a' N c')) w') : wpList Try.prog ops Q (o :: rest) a w := by
  subst hN
  exact wpList_bapp8 hgd s x ho base v ys hs hown B A m c xs hx hb (by rw [← List.length_append]; exact hlen) hbase h
/-- A row of bytes of the call's own. -/
def BytesE (w w' : World) (L : List Int) (e : Ending) : Prop := ∃ v, e = .returned v ∧ Own8 w.heap.size w' v L ∧ Below w.heap.size w w'
theorem HasN.at {d : Dv} {n : Int} (h : HasN d n) : ∃ k : Nat, n = k ∧ k < d.safe.length ∧ d.at n = d.safe.getD k [] := by
  refine ⟨n.toNat, by have := h.1; omega, by have := h.1; have := h.2; omega, rfl⟩
/-- The bytes that are kept, as a row that is read: either nothing or all of them. -/
theorem SecV.bys {w : World} {v : Value} {L : List Int} (h : SecV w v L) (hL : L.length = 128) : ∃ a c X, v = .slice a X.length c ∧ Bys8 w.heap.size w v X ∧ X.length ≤ 128 ∧ X ++ List.replicate (128 - X.length) 0 = L := by
  rcases h with ⟨rfl, e⟩ | ⟨h, e⟩
  · exact ⟨none, 0, [], rfl, bys8_nil _ _ _ _, by simp, by rw [e]; rfl⟩
  · obtain ⟨a, c, hv⟩ := h.form
    exact ⟨a, c, L, hv, h.bys, by omega, by rw [e]; simp⟩
theorem rep_step (X : List Int) (h : X.length < 128) : (X ++ [0]) ++ List.replicate (128 - (X ++ [0]).length) 0 = X ++ List.replicate (128 - X.length) 0 := by
  rw [List.append_assoc, List.length_append, List.length_singleton, show 128 - X.length = (128 - (X.length + 1)) + 1 by omega, List.replicate_succ]; rfl
set_option maxRecDepth 100000 in
theorem rat_any (q : Rl) (d : Dv) (w : World) (h : RefAt w q d) (n : Int) (hn : HasN d n) : Calls Try.prog 16 #[ptr q.D, .int .i64 n] w fun e w' => BytesE w w' (d.at n) e := by
  have c1 : w.cell? ⟨q.D, 1, none⟩ = some (.map (some q.M)) := h.dev.cell 1
  obtain ⟨k, rfl, hk, ek⟩ := hn.at
  obtain ⟨v, hrun, hv⟩ := map_look h.map k hk h.ok.most
  rw [ek]
  have hL : (d.safe.getD k []).length = 128 := (secs_get h.ok.secs hk).1
  generalize d.safe.getD k [] = L at *
  obtain ⟨a, c, X, hva, hB, hX, hXL⟩ := hv.bys hL
  rw [hva] at hB hrun
  have HB := Lib.hid hB
  have HX := Lib.hid hX
  have HXL := Lib.hid hXL
  have HL := Lib.hid hL
  obtain ⟨m, hm⟩ : ∃ m, X.length = m := ⟨_, rfl⟩
  rw [hm] at hrun
  have HM := Lib.hid hm
  have HBM := Lib.hid (show Bys8 w.heap.size w (.slice a m c) X by rw [← hm]; exact hB)
  have HO := Lib.hid (Own8.nil w.heap.size w)
  unfold BytesE
  clear h hk ek hv hL hB hX hXL hm hva
  go_enter Try.func16, Try.ntmps16
  go_wp2_with (at_builtin; refine bapp8N rfl _ _ rfl w.heap.size _ [] rfl HO.out _ a m c X rfl HBM.out m HM.out (by have := HX.out; have := HM.out; omega) (Nat.le_refl _) ?_; intro a1 c1' w1 hO1 hB1; rw [List.nil_append] at hO1; have HO1 := Lib.hid hO1; have HB1 := Lib.hid hB1; clear hO1 hB1)
  go_loopw [6] (fun o wr => ∃ (ao : Option Addr) (N co : Nat) (Y : List Int), o = .slice ao N co ∧ Y.length = N ∧ Own8 w.heap.size wr (.slice ao N co) Y ∧ N ≤ 128 ∧ Y ++ List.replicate (128 - N) 0 = L ∧ Below w.heap.size w wr) (fun o _ => 128 - (match o with | .slice _ n _ => n | _ => 0))
  case atStart => exact ⟨a1, m, c1', X, rfl, HM.out, HO1.out, by rw [← HM.out]; exact HX.out, by rw [← HM.out]; exact HXL.out, HB1.out⟩
  case round =>
    obtain ⟨ao, N, co, Y, rfl, hN, hO, hle, hYL, hB⟩ := hrel
    by_cases hlt : N < 128
    · have i1 : (N : Int) < 128 := by omega
      have HO2 := Lib.hid (hO.below ((Below.refl _ wr).alloc (Nat.le_refl _) (.cells #[.int .u8 0] 5)) (Nat.le_refl _))
      have HB2 := Lib.hid (hB.alloc hB.size (.cells #[.int .u8 0] 5))
      have HZ := Lib.hid (bys8_alloc (T := 5) wr [0] (by simp) #[.int .u8 0] rfl 1 1 rfl (0, 0))
      have HN := Lib.hid hN
      have HLT := Lib.hid hlt
      have HS := Lib.hid (show (Y ++ [0]).length = N + 1 ∧ (Y ++ [0]) ++ List.replicate (128 - (N + 1)) 0 = L from by
        have e := rep_step Y (by omega)
        have e2 : (Y ++ [0]).length = N + 1 := by rw [List.length_append, hN]; rfl
        rw [e2] at e
        exact ⟨e2, by rw [e, hN]; exact hYL⟩)
      have HSZ := Lib.hid hB.size
      clear hN hO hle hYL hB hlt HO1 HB1 HBM HB HX HXL HM
      go_wp2_with (at_builtin; refine bapp8N rfl _ _ rfl w.heap.size _ Y rfl HO2.out _ (some ⟨wr.heap.size, 0, none⟩) 1 1 [0] rfl HZ.out (N + 1) (by have := HN.out; have := HLT.out; simp; omega) (by have := HLT.out; omega) HB2.out.size ?_; intro a2 c2 w2 hO2 hB2; have HO3 := Lib.hid hO2; have HB3 := Lib.hid (HB2.out.trans hB2); clear hO2 hB2)
      go_roundw
      case rel => exact ⟨a2, N + 1, c2, Y ++ [0], rfl, HS.out.1, HO3.out, HLT.out, HS.out.2, HB3.out⟩
      case measure => have := HLT.out; show 128 - (N + 1) < 128 - N; omega
    · have hN2 : N = 128 := by omega
      subst hN2
      have eY : Y = L := by rw [← hYL]; simp
      have HR := Lib.hid (show Own8 w.heap.size wr (.slice ao 128 co) L ∧ Below w.heap.size w wr by rw [← eY]; exact ⟨hO, hB⟩)
      clear hN hO hle hYL hB hlt eY HO1 HB1 HBM HB HX HXL HM
      go_wp2
      go_ret
      exact ⟨_, rfl, HR.out⟩
end Go.Proofs.Yteopbeafhhfdoaa
