/- The document's Same and Great. -/
import Derived.Test.YtpcbolmidnoaiaaFRows
import Derived.Test.YtpcbolmidnoaiaaFAll
import Derived.Laws.BytesArg
import Derived.WideShapes
set_option linter.unusedVariables false
set_option linter.unusedSimpArgs false
namespace Go.Proofs.Ytpcbolmidnoaiaa
open Go.RowKit Go.Shelf
/-- The text of bytes. -/
theorem conv8 {B : Nat} {w : World} {A : Option Addr} {m c : Nat} {xs : List Int} (hb : Bys8 B w (.slice A m c) xs) : (convert 23 9 (.slice A m c)).run Try.prog w = .ok (.string (strOfNums xs)) w := by
  obtain ⟨hr, ⟨rfl, a, cap, e⟩ | ⟨b, off, cap, e, hB, hcs⟩⟩ := hb
  · cases e
    rw [run_convert_bytes_string w 23 9 5 _ 0 c Try.underlying23 Try.underlying5 Try.underlying9]
    cases A <;> simp [Conv.bytesToString, loadCells]
    all_goals rfl
  · cases e
    exact run_convert_bytes_arg w 23 5 Try.underlying23 Try.underlying5 b off _ c xs rfl hcs 9 Try.underlying9
theorem str_inj {xs ys : List Int} (hx : ∀ x ∈ xs, 0 ≤ x ∧ x < 256) (hy : ∀ y ∈ ys, 0 ≤ y ∧ y < 256) (h : strOfNums xs = strOfNums ys) : xs = ys := by
  have h1 := congrArg (fun s : ByteArray => s.data.toList) h
  simp only [strOfNums_data] at h1
  have inv : ∀ zs : List Int, (∀ z ∈ zs, 0 ≤ z ∧ z < 256) → (zs.map fun n => UInt8.ofNat n.toNat).map (fun u : UInt8 => (u.toNat : Int)) = zs := by
    intro zs hz
    rw [List.map_map]
    conv => rhs; rw [← List.map_id zs]
    apply List.map_congr_left
    intro z hzm
    have := hz z hzm
    simp only [Function.comp, UInt8.toNat_ofNat', id]
    omega
  rw [← inv xs hx, ← inv ys hy, h1]
/-- Two texts of bytes that differ. -/
theorem str_ne {xs ys : List Int} (hx : Byt xs) (hy : Byt ys) (hne : xs ≠ ys) : ((strOfNums xs).toList == (strOfNums ys).toList) = false := by
  rw [beq_eq_false_iff_ne]
  intro h
  rw [ByteArray.toList_eq, ByteArray.toList_eq] at h
  exact hne (str_inj hx hy (WideShapes.bytes_inj h))
theorem lists_eq {l m : List (List Int)} (hl : l.length = m.length) (h : ∀ j, j < l.length → l.getD j [] = m.getD j []) : l = m := by
  apply List.ext_getElem hl
  intro j h1 h2
  have := h j h1
  simpa [List.getD, h1, h2] using this
set_option maxRecDepth 100000 in
set_option maxHeartbeats 1000000 in
theorem same_any (a : Option Addr) (n c : Nat) (ls : List (List Int)) (b : Option Addr) (m d : Nat) (ms : List (List Int)) (w : World) (h : BssAt w.heap.size w a ls) (k : BssAt w.heap.size w b ms) (hn : n = ls.length) (hm : m = ms.length) (hl : n ≤ 10000000) (hl2 : m ≤ 10000000) :
    Calls Try.prog 17 #[.slice a n c, .slice b m d] w fun e w' => e = .returned (.bool (decide (ls = ms))) ∧ Below w.heap.size w w' := by
  by_cases hnm : n = m
  · have HX := Lib.hid (And.intro h k)
    have HL := Lib.hid (And.intro hl (And.intro hn (show n = ms.length by omega)))
    subst hnm
    clear h k hl hn hm hl2
    go_enter Try.func17, Try.ntmps17
    go_wp2
    go_loopw [5] (fun i wr => ∃ k : Nat, k ≤ n ∧ i = .int .i64 (k : Int) ∧ (∀ j, j < k → ls.getD j [] = ms.getD j []) ∧ Below w.heap.size w wr) (fun i _ => (n - intOf i).toNat)
    case atStart => exact ⟨0, Nat.zero_le _, rfl, (fun j hj => by omega), Below.refl _ _⟩
    case round =>
      obtain ⟨k, hk, rfl, hR, hB⟩ := hrel
      by_cases hlt : k < n
      · have i1 : (k : Int) < n := by omega
        have i2 : (0 : Int) ≤ (k : Int) := by omega
        have wk := wrap_succ (k := k) (by have := HL.out; omega)
        obtain ⟨b1, o1, a2, c2, rfl, hb1, h0, h1, h2⟩ := (HX.out.1.next hB (Nat.le_refl _)).at k (by have := HL.out; omega)
        obtain ⟨b3, o3, a4, c4, rfl, hb3, k0, k1, k2⟩ := (HX.out.2.next hB (Nat.le_refl _)).at k (by have := HL.out; omega)
        have hnx : ls.getD k [] = ms.getD k [] → ∀ j, j < k + 1 → ls.getD j [] = ms.getD j [] := fun e j hj => by
          by_cases q : j = k
          · rw [q]; exact e
          · exact hR j (by omega)
        have hno : ls.getD k [] ≠ ms.getD k [] → ls ≠ ms := fun q e => q (by rw [e])
        generalize ls.getD k [] = L at *
        generalize ms.getD k [] = M at *
        have cA : ∀ q, (convert 23 9 (.slice a2 L.length c2)).run Try.prog (wr.drewN q) = .ok (.string (strOfNums L)) (wr.drewN q) := fun q => conv8 (h2.below (below_drewN (Below.refl _ wr) q))
        have cB : ∀ q, (convert 23 9 (.slice a4 M.length c4)).run Try.prog (wr.drewN q) = .ok (.string (strOfNums M)) (wr.drewN q) := fun q => conv8 (k2.below (below_drewN (Below.refl _ wr) q))
        have HBY := Lib.hid (And.intro h2.1 k2.1)
        have HK := Lib.hid hlt
        have HB := Lib.hid hB
        obtain ⟨l1, hl1⟩ : ∃ l1, L.length = l1 := ⟨_, rfl⟩
        obtain ⟨l2, hl2⟩ : ∃ l2, M.length = l2 := ⟨_, rfl⟩
        rw [hl1] at h0 cA
        rw [hl2] at k0 cB
        clear hl1 hl2 h1 h2 k1 k2 hb1 hb3 hlt hk hB hR
        by_cases hLM : L = M
        · have HN := Lib.hid (hnx hLM)
          subst hLM
          clear hnx hno
          generalize strOfNums L = s at *
          go_wp2_with fail
          go_quiet (fail)
          go_wp2
          go_roundw
          case rel => exact ⟨k + 1, HK.out, by first | rfl | rw [wk], HN.out, below_drewN HB.out _⟩
          case measure =>
            have hk2 := HK.out
            first
              | (show ((n : Int) - intOf (.int .i64 (wrap64 ((k : Int) + 1)))).toNat < ((n : Int) - intOf (.int .i64 (k : Int))).toNat; rw [wk])
              | (show ((n : Int) - intOf (.int .i64 ((k + 1 : Nat) : Int))).toNat < ((n : Int) - intOf (.int .i64 (k : Int))).toNat)
              | (show ((n : Int) - intOf (.int .i64 ((k : Int) + 1))).toNat < ((n : Int) - intOf (.int .i64 (k : Int))).toNat)
            first
              | (show ((n : Int) - ((k + 1 : Nat) : Int)).toNat < ((n : Int) - ((k : Nat) : Int)).toNat; omega)
              | (show ((n : Int) - ((k : Int) + 1)).toNat < ((n : Int) - ((k : Nat) : Int)).toNat; omega)
        · have HE := Lib.hid (decide_eq_false (hno hLM))
          have hs := str_ne HBY.out.1 HBY.out.2 hLM
          clear hnx hno hLM
          generalize strOfNums L = s at *
          generalize strOfNums M = t at *
          go_wp2_with fail
          go_quiet (fail)
          go_wp2
          go_ret
          exact ⟨by rw [HE.out]; rfl, below_drewN HB.out _⟩
      · have i1 : ¬ (k : Int) < n := by omega
        have HE := Lib.hid (decide_eq_true (lists_eq (l := ls) (m := ms) (by have := HL.out; omega) (fun j hj => hR j (by have := HL.out; omega))))
        have HB := Lib.hid hB
        clear hB hR hlt hk
        go_wp2
        go_ret
        exact ⟨by rw [HE.out]; rfl, HB.out⟩
  · have e1 : ((n : Int) != (m : Int)) = true := by simp; omega
    have HE := Lib.hid (decide_eq_false (fun e : ls = ms => hnm (by rw [hn, hm, e])))
    clear h k hn hm hl hl2 hnm
    go_enter Try.func17, Try.ntmps17
    go_wp2
    go_ret
    exact ⟨by rw [HE.out]; rfl, Below.refl _ _⟩
/-- Great: more than the statements go through? -/
def greatE (N : Nat) : Nat := if 9000 < N then 1 else 0
end Go.Proofs.Ytpcbolmidnoaiaa
