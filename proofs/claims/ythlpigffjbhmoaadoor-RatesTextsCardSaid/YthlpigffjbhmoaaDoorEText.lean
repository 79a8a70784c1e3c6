/- The program's Text. -/
import Derived.Test.YthlpigffjbhmoaaDoorELine
import Derived.Deep.RegionHeld3
set_option linter.unusedVariables false
set_option linter.unusedSimpArgs false
namespace Go.Proofs.YthlpigffjbhmoaaDoor
open Go.RowKit Go.Shelf
abbrev IsB (B b : Nat) (l : List UInt8) (w : World) : Prop := Lib.IsBuilder 55 5 B b (Lib.byteCells l) w
theorem bAt_below {B b : Nat} {p : Value} {bs : List Value} {w w' : World} (h : Lib.BuilderAt 55 5 B b p bs w) (hB : Below w.heap.size w w') : Lib.BuilderAt 55 5 B b p bs w' := by
  obtain ⟨h1, v, h2, h3, h4⟩ := h
  refine ⟨h1, v, (hB.block b (Array.getElem?_eq_some_iff.1 h2).1).trans h2, ?_, h4⟩
  refine ⟨h3.1, ?_⟩
  rcases h3.2 with e | ⟨g, cap, cur, e, hg, hh, r⟩
  · exact .inl e
  · exact .inr ⟨g, cap, cur, e, hg, (hB.block g (Array.getElem?_eq_some_iff.1 hh).1).trans hh, r⟩
theorem isB_below {B b : Nat} {l : List UInt8} {w w' : World} (h : IsB B b l w) (hB : Below w.heap.size w w') : IsB B b l w' := by
  rcases h with h | h
  · exact .inl (bAt_below h hB)
  · exact .inr (bAt_below h hB)
theorem strCells_list (l : List UInt8) : Lib.strCells ⟨l.toArray⟩ = Lib.byteCells l := by
  unfold Lib.strCells Lib.byteCells
  rfl
theorem text_succ {l : List Ve} {k : Nat} {v : Ve} (h : l[k]? = some v) : textL (l.take (k + 1)) = textL (l.take k) ++ lineL v := by
  rw [take_succ h, textL_app, textL_one]
theorem bc_len (l : List UInt8) : (Lib.byteCells l).length = l.length := by simp [Lib.byteCells]
set_option maxRecDepth 100000 in
set_option maxHeartbeats 2000000 in
theorem text_no (a : Option Addr) (n cap : Nat) (l : List Ve) (hn : l.length = n) (hno : ¬ TabMay l) (w : World) (hA : VesAt w.heap.size w a l) (hnx : n ≤ cap ∧ cap ≤ maxLen) :
    Calls Tryd.prog 9 #[.slice a n cap] w fun e w' => e = .returned (.tuple #[.string ⟨#[]⟩, .int .i64 100]) ∧ Below w.heap.size w w' := by
  have hck := check_any a n cap l hn w hA hnx
  rw [tErr_no hno] at hck
  have HCK := Lib.hid hck
  clear hck hA hn hno
  go_enter Tryd.func9, Tryd.ntmps9
  go_wp2_with fail
  refine HCK.out.mono ?_
  rintro e w1 ⟨rfl, hB1⟩
  have HB1 := Lib.hid hB1
  clear hB1
  go_wp2
  go_ret2
  exact ⟨rfl, HB1.out⟩
set_option maxRecDepth 100000 in
set_option maxHeartbeats 4000000 in
theorem text_yes (a : Option Addr) (n cap : Nat) (l : List Ve) (hn : l.length = n) (ht : TabMay l) (w : World) (hA : VesAt w.heap.size w a l) (hnx : n ≤ cap ∧ cap ≤ maxLen) (hT : Pow w) :
    Calls Tryd.prog 9 #[.slice a n cap] w fun e w' => e = .returned (.tuple #[strL (textL l), .int .i64 0]) ∧ Below w.heap.size w w' := by
  have hck := check_any a n cap l hn w hA hnx
  rw [tErr_yes ht] at hck
  have HCK := Lib.hid hck
  have HA := Lib.hid hA
  have HN := Lib.hid hn
  have HT := Lib.hid hT
  have HTB := Lib.hid ht
  have hn2 : n ≤ 200 := by rw [← hn]; exact tab_len ht
  have HTL := Lib.hid (fun k => (show (textL (l.take k)).length ≤ 44200 by
    have h1 := text_len (l.take k) (fun v hv => tab_ver ht (List.mem_of_mem_take hv))
    rw [List.length_take, hn] at h1
    omega))
  clear hck hA hn hT ht
  go_enter Tryd.func9, Tryd.ntmps9
  go_wp2_with fail
  refine HCK.out.mono ?_
  rintro e w1 ⟨rfl, hB1⟩
  have HB1 := Lib.hid hB1
  have HBW := Lib.hid (hB1.alloc hB1.size (.cells #[.pointer none, .slice none 0 0] 55))
  have HIB := Lib.hid (show IsB w1.heap.size w1.heap.size [] (w1.alloc (.cells #[.pointer none, .slice none 0 0] 55)) from Lib.fresh_isBuilder 55 5 w1)
  have HW1 := Lib.hid hB1.size
  obtain ⟨b, hb⟩ : ∃ b, w1.heap.size = b := ⟨_, rfl⟩
  have HSB : Hid ((w1.alloc (.cells #[.pointer none, .slice none 0 0] 55)).heap.size = b + 1) := Lib.hid (by rw [World.size_alloc, hb])
  have HBB := Lib.hid hb
  clear hB1 HCK
  go_wp2_with fail
  rw [HBB.out] at HIB HW1
  go_loopw [12] (fun i wr => ∃ k : Nat, k ≤ n ∧ i = .int .i64 k ∧ IsB b b (textL (l.take k)) wr ∧ b + 1 ≤ wr.heap.size ∧ Below w.heap.size w wr) (fun i _ => (n - intOf i).toNat)
  case atStart => exact ⟨0, Nat.zero_le _, rfl, by rw [List.take_zero]; exact HIB.out, by rw [HSB.out]; exact Nat.le_refl _, HBW.out⟩
  case round =>
    obtain ⟨k, hk, rfl, hib, hsz, hbw⟩ := hrel
    have hTL := HTL.out k
    have HIBR := Lib.hid hib
    have HBR := Lib.hid hbw
    have HSZ := Lib.hid hsz
    clear hib hbw hsz HIB HBW HB1 HBB hb HSB
    by_cases hlt : k < n
    · have hlti : (k : Int) < n := by omega
      obtain ⟨⟨f, ps⟩, hv⟩ : ∃ v, l[k]? = some v := ⟨_, List.getElem?_eq_getElem (by rw [HN.out]; exact hlt)⟩
      obtain ⟨bb, o, pa, pc, rfl, hbl, c0, c1, hle, hup⟩ := HA.out.next HBR.out (Nat.le_refl _) k _ hv
      obtain ⟨m, hm⟩ : ∃ m, ps.length = m := ⟨_, rfl⟩
      simp only at c0 c1 hle hup
      rw [hm] at c1 hle
      have hvm := tab_ver HTB.out (List.mem_of_getElem? hv)
      have hll := line_len hvm
      have HSU := Lib.hid (text_succ hv)
      have hbx := HBR.out.alloc HBR.out.size (.cells #[.int .i64 f, .slice pa m pc] 42)
      have HBX := Lib.hid hbx
      have HIX := Lib.hid (isB_below HIBR.out ((Below.refl _ wr).alloc (Nat.le_refl _) (.cells #[.int .i64 f, .slice pa m pc] 42)))
      have HLO := Lib.hid (lineOf_any f pa m pc ps hm hvm (wr.alloc (.cells #[.int .i64 f, .slice pa m pc] 42)) (((hup.next ((Below.refl _ wr).alloc (Nat.le_refl _) _) HBR.out.size)).mono hbx.size) (HT.out.next hbx (Nat.le_refl _)))
      have HSX : Hid ((wr.alloc (.cells #[.int .i64 f, .slice pa m pc] 42)).heap.size = wr.heap.size + 1) := Lib.hid (World.size_alloc _ _)
      obtain ⟨D, hD⟩ : ∃ D, lineL ⟨f, ps⟩ = D := ⟨_, rfl⟩
      rw [hD] at HLO hll HSU
      clear hv hm hvm hup hbx hD
      go_wp2_with fail
      refine HLO.out.mono ?_
      rintro e w2 ⟨rfl, hB2⟩
      have HIB2 := Lib.hid (isB_below HIX.out hB2)
      have HB2 := Lib.hid (HBX.out.trans (hB2.mono HBX.out.size))
      have HS2 := Lib.hid (show b + 1 ≤ w2.heap.size by have := hB2.size; have := HSX.out; have := HSZ.out; omega)
      clear hB2 HLO HIX HBX
      go_wp2_with fail
      refine (writeString_any b b (Lib.byteCells (textL (l.take k))) ⟨D.toArray⟩ w2 HIB2.out (by rw [bc_len]; show _ + D.toArray.size ≤ _; simp; omega) (by have := HS2.out; omega)).mono ?_
      rw [strCells_list, ← Lib.byteCells_append, ← HSU.out]
      rintro e w3 ⟨rfl, hI3, hB3⟩
      have HI3 := Lib.hid (show IsB b b (textL (l.take (k + 1))) w3 from .inr hI3)
      have HB3 := Lib.hid (HB2.out.trans (hB3.mono (by have := HW1.out; omega)))
      have HS3 := Lib.hid (show b + 1 ≤ w3.heap.size by have := hB3.size; have := HS2.out; omega)
      clear hI3 hB3 HIB2 HB2
      go_wp2
      go_roundw
      case rel => exact ⟨k + 1, by omega, by go_num, HI3.out, HS3.out, HB3.out⟩
      case measure => first | (simp [intOf]; done) | (simp [intOf]; omega)
    · have hke : k = n := by omega
      subst hke
      have hnl : ¬ ((k : Int) < k) := by omega
      have hall : l.take k = l := List.take_of_length_le (by rw [HN.out]; exact Nat.le_refl _)
      rw [hall] at HIBR
      clear hall
      go_wp2_with fail
      refine (Builder_String_any b b (textL l) wr HIBR.out (by have := HSZ.out; omega)).mono ?_
      rintro e w2 ⟨rfl, hB2⟩
      have HB2 := Lib.hid (HBR.out.trans (hB2.mono HW1.out))
      clear hB2
      go_wp2
      go_ret2
      exact ⟨rfl, HB2.out⟩
end Go.Proofs.YthlpigffjbhmoaaDoor
