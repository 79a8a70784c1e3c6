/- The document's Text, where it answers registers. -/
import Derived.Test.YtkghiendflheiaaRRefT
set_option linter.unusedVariables false
namespace Go.Proofs.Ytkghiendflheiaa
open Go.RowKit Go.Sort
/-- The registers read as ls. -/
def Reads (ls : List Int) (k : Int) (w : World) (e : Ending) (w' : World) : Prop := ∃ a c, e = .returned (.tuple #[.slice a ls.length c, .int .i64 k]) ∧ Bys16 w'.heap.size w' (.slice a ls.length c) ls ∧ Below w.heap.size w w'
theorem strB_get (s : ByteArray) (k : Nat) (h : k < s.size) : (strB s).getD k 0 = (s[k].toNat : Int) := by
  have h' : k < s.data.size := h
  simp [strB, List.getD]
  rw [Array.getElem?_eq_getElem h']
  rfl
/-- The registers behind k bytes. -/
def fR (s : ByteArray) (k j : Nat) : Int := (if 2 * j < k then (strB s).getD (2 * j) 0 * 256 else 0) + (if 2 * j + 1 < k then (strB s).getD (2 * j + 1) 0 else 0)
theorem fR_succ (s : ByteArray) (k p : Nat) : (if p = k / 2 then fR s (k + 1) (k / 2) else fR s k p) = fR s (k + 1) p := by
  by_cases h : p = k / 2
  · rw [if_pos h, h]
  · rw [if_neg h]
    unfold fR
    have e1 : (2 * p < k) = (2 * p < k + 1) := propext (by omega)
    have e2 : (2 * p + 1 < k) = (2 * p + 1 < k + 1) := propext (by omega)
    simp only [e1, e2]
theorem fR_even (s : ByteArray) (k : Nat) (h : k % 2 = 0) : fR s k (k / 2) = 0 ∧ fR s (k + 1) (k / 2) = (strB s).getD k 0 * 256 := by
  have e : 2 * (k / 2) = k := by omega
  unfold fR
  rw [e]
  constructor
  · rw [if_neg (by omega), if_neg (by omega)]; rfl
  · rw [if_pos (by omega), if_neg (by omega)]; omega
theorem fR_odd (s : ByteArray) (k : Nat) (h : k % 2 = 1) : fR s k (k / 2) = (strB s).getD (k - 1) 0 * 256 ∧ fR s (k + 1) (k / 2) = (strB s).getD (k - 1) 0 * 256 + (strB s).getD k 0 := by
  have e : 2 * (k / 2) = k - 1 := by omega
  have e' : k - 1 + 1 = k := by omega
  unfold fR
  rw [e, e']
  constructor
  · rw [if_pos (by omega), if_neg (by omega)]; omega
  · rw [if_pos (by omega), if_pos (by omega)]
theorem fR_end (s : ByteArray) (m : Nat) (h : s.size ≤ 2 * m) : (List.range m).map (fR s s.size) = pairsL (padL s m) := by
  have hl : (padL s m).length = 2 * m := by simp [padL]
  unfold pairsL
  rw [hl, show 2 * m / 2 = m by omega]
  refine List.map_congr_left fun j hj => ?_
  have hj : j < m := by simpa using hj
  have g1 : (padL s m).getD (2 * j) 0 = (strB s).getD (2 * j) 0 := by simp [padL, List.getD, show 2 * j < 2 * m by omega]
  have g2 : (padL s m).getD (2 * j + 1) 0 = (strB s).getD (2 * j + 1) 0 := by simp [padL, List.getD, show 2 * j + 1 < 2 * m by omega]
  have z : ∀ i, ¬ i < s.size → (strB s).getD i 0 = 0 := fun i hi => by simp [List.getD, strB_len, hi]
  rw [g1, g2]
  unfold fR
  by_cases h1 : 2 * j < s.size
  · by_cases h2 : 2 * j + 1 < s.size
    · rw [if_pos h1, if_pos h2]
    · rw [if_pos h1, if_neg h2, z _ h2]
  · rw [if_neg h1, if_neg (by omega), z _ h1, z (2 * j + 1) (by omega)]; rfl
theorem fR_bd (s : ByteArray) (k j : Nat) : 0 ≤ fR s k j ∧ fR s k j < 65536 := by
  have := strB_bd s (2 * j)
  have := strB_bd s (2 * j + 1)
  unfold fR
  split <;> split <;> omega
set_option maxHeartbeats 2000000 in
theorem rtext_yes (s : ByteArray) (m : Nat) (h : textB s m) (w : World) :
    Calls Try.prog 7 #[.string s, .int .i64 m] w (Reads (pairsL (padL s m)) 0 w) := by
  obtain ⟨i0, hi, hz0, hz1, hz2⟩ := parts16
  obtain ⟨h1, h2, h3⟩ := h
  have d1 : decide ((m : Int) < 0) = false := by simp
  have d2 : decide (125 < (m : Int)) = false := by simp; omega
  have d3 : decide (2 * (m : Int) < (s.size : Int)) = false := by simp; omega
  have s1 : IntKind.i64.wrap (2 * (m : Int)) = 2 * (m : Int) := IntWalk.i64_in _ (by omega)
  have hno := Lib.indexByte_none (show Lib.indexByte s.data.toList 0 = -1 by have := Lib.indexByte_ge s.data.toList 0; omega)
  have hsz : s.size ≤ 250 := by omega
  have H1 := Lib.hid h1
  have H2 := Lib.hid h2
  have HNO := Lib.hid hno
  have HI0 := Lib.hid hi
  have HZ0 := Lib.hid hz0
  have HZ1 := Lib.hid hz1
  have HZ2 := Lib.hid hz2
  clear hi hz0 hz1 hz2 h1 h2 h3 hno
  go_enter Try.func7, Try.ntmps7
  go_wp2
  go_loopw [6] (fun i wr => ∃ k : Nat, k ≤ s.size ∧ i = .int .i64 k ∧ wr = w) (fun i _ => s.size - (RowKit.intOf i).toNat)
  case atStart => exact ⟨0, Nat.zero_le _, rfl, rfl⟩
  case round =>
    obtain ⟨k, hk, rfl, rfl⟩ := hrel
    by_cases hlt : k < s.size
    · have hb := byteZ s k hlt
      rw [decide_eq_false (HNO.out k)] at hb
      go_wp2
      go_roundw
      case rel => exact ⟨k + 1, by omega, by simp, trivial⟩
      case measure => simp [RowKit.intOf]; omega
    · obtain rfl : k = s.size := by omega
      rename World => W0
      go_wp2_with (at_make; refine wpList_make_full _ rfl _ _ 22 rfl W0.heap.size 33 i0 (.int .u16 0) 1 Try.underlying22 HI0.out HZ0.out HZ1.out _ _ _ _ m rfl rfl (by omega) (by have := H1.out; omega) (by rw [HZ2.out]; have := H1.out; omega) (by have := H1.out; unfold maxLen; omega) (Nat.le_refl _) ?_; intro w1 hO1 hG1)
      have hB1 : Below W0.heap.size W0 w1 := (Below.refl _ _).grown hG1 (Nat.le_refl _) (by simp)
      have hR1 : Row16 W0.heap.size m (fun _ => 0) w1 := Row16.of_owns hO1 (fun j hj => made16_zero m j hj)
      have hg1 : W0.heap.size < w1.heap.size := by
        rcases hO1.2 with ⟨e, _⟩ | ⟨g', cap', cur, e, hg, hb, _⟩
        · cases e
        · cases e; exact (Array.getElem?_eq_some_iff.1 hb).1
      clear hO1 hG1
      go_loopw [8] (fun i wx => ∃ k : Nat, k ≤ s.size ∧ i = .int .i64 k ∧ Row16 W0.heap.size m (fR s k) wx ∧ Below W0.heap.size W0 wx ∧ W0.heap.size < wx.heap.size) (fun i _ => s.size - (RowKit.intOf i).toNat)
      case atStart => exact ⟨0, Nat.zero_le _, rfl, hR1.congr (fun j hj => by simp [fR]), hB1, hg1⟩
      case round =>
        obtain ⟨k, hk, rfl, hR, hB, hg⟩ := hrel
        by_cases hlt : k < s.size
        · have hk2 : k / 2 < m := by have := H2.out; omega
          obtain ⟨cx, fx⟩ := hR _ hk2
          have hnew := fun v' (hv' : v' = fR s (k + 1) (k / 2)) => (hR.set (k / 2) v').congr (f' := fR s (k + 1)) (fun p hp => by rw [hv']; exact fR_succ s k p)
          have HN := Lib.hid hnew
          have HB := Lib.hid hB
          have HG := Lib.hid hg
          have hx := strB_get s k hlt
          have bx : 0 ≤ ((s[k].toNat : Nat) : Int) ∧ ((s[k].toNat : Nat) : Int) < 256 := by rw [← hx]; exact strB_bd s k
          have w1' : IntKind.u16.wrap ((s[k].toNat : Nat) : Int) = ((s[k].toNat : Nat) : Int) := by rw [IntKind.wrap_u16]; omega
          have w2' : IntKind.u16.wrap (((s[k].toNat : Nat) : Int) * 256) = ((s[k].toNat : Nat) : Int) * 256 := by rw [IntKind.wrap_u16]; omega
          have hmm : ((k / 2 : Nat) : Int) < (m : Int) := by omega
          by_cases he : k % 2 = 0
          · have h2z : ((k : Int) % 2 == 0) = true := by simp; omega
            obtain ⟨f0, f1⟩ := fR_even s k he
            rw [f0] at cx
            have HV : Hid (((s[k].toNat : Nat) : Int) * 256 = fR s (k + 1) (k / 2)) := by show _ = _; rw [f1, hx]
            clear hnew hR hB f0 f1 he hx hR1 hB1 hg hg1
            go_wp2
            go_roundw
            case rel => exact ⟨k + 1, by omega, by simp, HN.out _ HV.out, HB.out.setCell (p := ⟨W0.heap.size, k / 2, none⟩) (Nat.le_refl _) _, by simpa using HG.out⟩
            case measure => simp [RowKit.intOf]; omega
          · have h2z : ((k : Int) % 2 == 0) = false := by simp; omega
            obtain ⟨f0, f1⟩ := fR_odd s k (by omega)
            have hy := strB_bd s (k - 1)
            rw [f0] at cx
            have HV : Hid ((strB s).getD (k - 1) 0 * 256 + ((s[k].toNat : Nat) : Int) = fR s (k + 1) (k / 2)) := by show _ = _; rw [f1, hx]
            generalize (strB s).getD (k - 1) 0 = y at *
            have w3' : IntKind.u16.wrap (y * 256 + ((s[k].toNat : Nat) : Int)) = y * 256 + ((s[k].toNat : Nat) : Int) := by rw [IntKind.wrap_u16]; omega
            clear hnew hR hB f0 f1 he hx hR1 hB1 hg hg1
            go_wp2
            go_roundw
            case rel => exact ⟨k + 1, by omega, by simp, HN.out _ HV.out, HB.out.setCell (p := ⟨W0.heap.size, k / 2, none⟩) (Nat.le_refl _) _, by simpa using HG.out⟩
            case measure => simp [RowKit.intOf]; omega
        · obtain rfl : k = s.size := by omega
          have hbt := hR.bys (fun j _ => fR_bd s s.size j) hg m
          rw [fR_end s m H2.out] at hbt
          have hpl : (pairsL (padL s m)).length = m := by simp [pairsL, padL]
          go_wp2
          exact bodyPost_ret (v := .tuple #[.slice (some ⟨W0.heap.size, 0, none⟩) (pairsL (padL s m)).length m, .int .i64 0]) (by simp [results, Try.results7, go_sem, hpl]) rfl ⟨_, _, rfl, by rw [hpl]; exact hbt, hB⟩
end Go.Proofs.Ytkghiendflheiaa
