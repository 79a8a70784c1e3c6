/- Cached. -/
import Derived.Test.YteopbeafhhfdoaaDFlush
set_option linter.unusedVariables false
set_option linter.unusedSimpArgs false
namespace Go.Proofs.Yteopbeafhhfdoaa
open Go.RowKit
def ints (xs : List Int) : List Value := xs.map (Value.int .i64)
theorem int_parts : ∃ i, Try.prog.info? 3 = some i ∧ i.zero = some (.int .i64 0) ∧ i.size = 1 ∧ i.bytes = 8 := by
  have h : (Try.prog.info? 3).map (fun i => (i.zero, i.size, i.bytes)) = some (some (.int .i64 0), 1, 8) := by kernel_rfl
  cases hi : Try.prog.info? 3 with
  | none => rw [hi] at h; cases h
  | some i => rw [hi] at h; simp at h; exact ⟨i, rfl, h.1, h.2.1, h.2.2⟩
theorem append_int_op {w : World} {ops : Array Oper} {rest : List Oper} {o : Oper} {a : Act} {Q : Exit → Act → World → Prop} (v : Value) (xs : List Int) (y : Int) (g : Nat) (hown : w.ownsRow 0 3 1 v xs.length (ints xs)) (hc : w.cell? ⟨g, 0, none⟩ = some (.int .i64 y)) (hlen : xs.length ≤ 100000)
    (hgd : o.guard = none) (s x : Operand) (ho : o.op = .call { callee := .builtin .append, args := #[s, x], argTypes := #[44, 44] }) (hs : a.eval s = v) (hx : a.eval x = .slice (some ⟨g, 0, none⟩) 1 1)
    (h : ∀ v' w', w'.ownsRow 0 3 1 v' (xs ++ [y]).length (ints (xs ++ [y])) → w.grownBy w' v.ownBlock → (v'.ownBlock = v.ownBlock ∨ v'.ownBlock = some w.heap.size) → wpList Try.prog ops Q rest (a.put o.dst v') w') : wpList Try.prog ops Q (o :: rest) a w := by
  obtain ⟨i, hi, hz, hsz, hb⟩ := int_parts
  refine wpList_append_own_at w hgd s x 44 ho 0 3 i _ 1 8 Try.underlying44 hi hz hsz hb rfl (by decide) v xs.length (ints xs) hs hown ⟨g, 0, none⟩ 1 1 [.int .i64 y] hx rfl (fun j u hu => ?_) (fun u hu => by rw [List.mem_singleton.1 hu]; rfl) (by unfold maxLen; omega) (by omega) (Nat.zero_le _) ?_
  · cases j with
    | zero =>
      have : Value.int .i64 y = u := by simpa using hu
      rw [Addr.add_mid, ← this]; exact hc
    | succ j => simp at hu
  · intro v' w' h1 h2 _ h4
    refine h v' w' ?_ h2 h4
    rw [List.length_append]
    unfold ints at h1 ⊢
    rw [List.map_append]
    exact h1
/-- The places of the writes, in a row of the call's own. -/
def CachedE (w w' : World) (d : Dv) (e : Ending) : Prop := ∃ v, e = .returned v ∧ w'.ownsRow 0 3 1 v d.cache.length (ints (d.cache.map (·.1))) ∧ (∀ j, v.ownBlock = some j → w.heap.size ≤ j) ∧ Below w.heap.size w w'
set_option maxRecDepth 100000 in
set_option maxHeartbeats 1000000 in
theorem cached_any (p : Pl) (d : Dv) (w : World) (h : DevAt w p d) : Calls Try.prog 14 #[ptr p.D] w fun e w' => CachedE w w' d e := by
  have hzw := (zero_of_info wr_zero).1
  obtain ⟨a0, c0, hv0⟩ : ∃ a0 c0, p.vC = .slice a0 d.cache.length c0 := by
    rcases h.cache.2 with ⟨e, e2⟩ | ⟨g, cap, cur, e, _⟩
    · exact ⟨none, 0, by rw [e, e2]⟩
    · exact ⟨_, _, e⟩
  have cc1 : w.cell? ⟨p.D, 1, none⟩ = some (.slice a0 d.cache.length c0) := by rw [← hv0]; exact h.dev.cell 1
  have HM := Lib.hid (made_any p d w h)
  have HC := Lib.hid (show w.ownsRow 0 75 129 (.slice a0 d.cache.length c0) d.cache.length (d.cache.map wcells).flatten by rw [← hv0]; exact h.cache)
  have HL := Lib.hid (show d.cache.length ≤ 256 ∧ (∀ x ∈ d.cache, x.2.length = 128) from ⟨h.ok.full, fun x hx => (h.ok.wr x hx).2.2.1⟩)
  unfold CachedE
  clear h hv0
  generalize d.cache = c at *
  go_enter Try.func14, Try.ntmps14
  go_wp2_with (refine HM.out.mono ?_; rintro e w' ⟨rfl, rfl⟩)
  go_loopw [3, 14] (fun s i wr => ∃ k : Nat, k ≤ c.length ∧ i = .int .i64 (k : Int) ∧ wr.ownsRow 0 3 1 s (((c.take k).map (·.1)).length) (ints ((c.take k).map (·.1))) ∧ (∀ j, s.ownBlock = some j → w.heap.size ≤ j) ∧ Below w.heap.size w wr) (fun _ i _ => (c.length - intOf i).toNat)
  case atStart => exact ⟨0, Nat.zero_le _, rfl, World.ownsRow_nil _ _ _ _, (fun j e => by cases e), Below.refl _ _⟩
  case round =>
    obtain ⟨k, hk, rfl, hown, hnew, hB⟩ := hrel
    clear cc1
    by_cases hlt : k < c.length
    · have i1 : (k : Int) < c.length := by omega
      have wk : wrap64 ((k : Int) + 1) = ((k + 1 : Nat) : Int) := by have := HL.out.1; unfold wrap64; omega
      have hC : wr.ownsRow 0 75 129 (.slice a0 c.length c0) c.length (c.map wcells).flatten := ownsRow_upd HC.out (⟨hB.os, hB.tape, hB.output, hB.size, fun k hk _ => hB.block k hk⟩ : Upd (fun _ => False) w wr) (fun _ _ q => q)
      obtain ⟨g, cap, hv, hrg, hle⟩ := cache_range hC HL.out.2 k hlt
      cases hv
      have hs : c.take (k + 1) = c.take k ++ [cAt c k] := by
        rw [List.take_succ_eq_append_getElem hlt]; unfold cAt; simp [List.getD, hlt]
      obtain ⟨x, hx⟩ : ∃ x, cAt c k = x := ⟨_, rfl⟩
      rw [hx] at hrg hle hs
      obtain ⟨n0, L0⟩ := x
      have HA := Lib.hid (At.new 75 wr (#[.int .i64 0] ++ nums .u8 128 fun _ => 0))
      obtain ⟨W2, hW2⟩ : ∃ W2, W2 = (wr.alloc (.cells (#[.int .i64 0] ++ nums .u8 128 fun _ => 0) 75)).setRow wr.heap.size (wcells (n0, L0)).toArray := ⟨_, rfl⟩
      have hb2 : Below wr.heap.size wr W2 := by rw [hW2]; exact below_row ((Below.refl _ wr).alloc (Nat.le_refl _) _) (Nat.le_refl _) _
      have ha2 : At 75 W2 wr.heap.size (wcells (n0, L0)).toArray := by rw [hW2]; exact HA.out.row
      have e2 : W2.cell? ⟨wr.heap.size, 0, none⟩ = some (.int .i64 n0) := ha2.cell 0
      have s2 : W2.heap.size = wr.heap.size + 1 := by rw [hW2]; simp
      have hb3 : Below wr.heap.size wr (W2.alloc (.cells #[.int .i64 n0] 3)) := hb2.alloc hb2.size _
      have hown3 := ownsRow_upd (Y := W2.alloc (.cells #[.int .i64 n0] 3)) hown (⟨hb3.os, hb3.tape, hb3.output, hb3.size, fun k hk _ => hb3.block k hk⟩ : Upd (fun _ => False) wr _) (fun _ _ q => q)
      have e3 : (W2.alloc (.cells #[.int .i64 n0] 3)).cell? ⟨wr.heap.size + 1, 0, none⟩ = some (.int .i64 n0) := by rw [← s2]; exact (At.new 3 W2 #[.int .i64 n0]).cell 0
      have HE3 := Lib.hid e3
      have HOWN := Lib.hid hown3
      have HB3 := Lib.hid (hB.trans (hb3.mono hB.size))
      have HNEW := Lib.hid hnew
      have HS := Lib.hid hs
      have HLE := Lib.hid hle
      have HRG := Lib.hid hrg
      have HSZ := Lib.hid (show wr.heap.size + 2 = (W2.alloc (.cells #[.int .i64 n0] 3)).heap.size ∧ w.heap.size ≤ wr.heap.size by rw [World.size_alloc, s2]; exact ⟨rfl, hB.size⟩)
      have HK := Lib.hid hlt
      have HLN := Lib.hid (show ((c.take k).map (·.1)).length ≤ 100000 by have := HL.out.1; rw [List.length_map, List.length_take]; omega)
      have hW2' := hW2
      rw [hW2] at e2 HE3 HOWN HB3 HSZ
      clear hC hrg hle hb2 ha2 s2 hb3 hown3 e3 hB hnew hown hs hlt hk hW2 hW2'
      go_wp2_with (first | (refine load_wr_op HRG.out HLE.out rfl rfl rfl ?_) | (refine store_wr_op HA.out (by simp [nums_size]) HLE.out rfl rfl rfl rfl ?_) | (refine append_int_op _ _ n0 _ HOWN.out HE3.out HLN.out rfl _ _ rfl rfl rfl ?_))
      intro v' w' h1 h2 h4
      have HREL := Lib.hid (show w'.ownsRow 0 3 1 v' (((c.take (k + 1)).map (·.1)).length) (ints ((c.take (k + 1)).map (·.1))) ∧ (∀ j, v'.ownBlock = some j → w.heap.size ≤ j) ∧ Below w.heap.size w w' from by
        rw [HS.out, List.map_append]
        refine ⟨by simpa [List.map_take] using h1, fun j hj => ?_, HB3.out.grown h2 (by have := HSZ.out; omega) (fun j e => HNEW.out j e)⟩
        rcases h4 with e | e
        · exact HNEW.out j (by rw [← e]; exact hj)
        · rw [e] at hj
          cases hj
          have := HSZ.out
          omega)
      clear h1 h2 h4 e2 W2
      go_wp2
      go_roundw
      case rel => exact ⟨k + 1, HK.out, by first | rfl | rw [wk], HREL.out⟩
      case measure =>
        have hk2 := HK.out
        first
          | (show ((c.length : Int) - intOf (.int .i64 (wrap64 ((k : Int) + 1)))).toNat < ((c.length : Int) - intOf (.int .i64 (k : Int))).toNat; rw [wk])
          | (show ((c.length : Int) - intOf (.int .i64 ((k + 1 : Nat) : Int))).toNat < ((c.length : Int) - intOf (.int .i64 (k : Int))).toNat)
          | (show ((c.length : Int) - intOf (.int .i64 ((k : Int) + 1))).toNat < ((c.length : Int) - intOf (.int .i64 (k : Int))).toNat)
        first
          | (show ((c.length : Int) - ((k + 1 : Nat) : Int)).toNat < ((c.length : Int) - ((k : Nat) : Int)).toNat; omega)
          | (show ((c.length : Int) - ((k : Int) + 1)).toNat < ((c.length : Int) - ((k : Nat) : Int)).toNat; omega)
    · have hke : k = c.length := by omega
      subst hke
      have i1 : ¬ ((c.length : Int) < c.length) := by omega
      rw [List.take_length] at hown
      have HX := Lib.hid (And.intro hown (And.intro hnew hB))
      rw [List.length_map] at HX
      clear hown hnew hB hlt hk
      go_wp2
      go_ret
      exact ⟨_, rfl, HX.out⟩
end Go.Proofs.Yteopbeafhhfdoaa
