/- The program's Check of a table. -/
import Derived.Test.YthlpigffjbhmoaaDoorVChk
import Derived.Deep.RegionHeld3
set_option linter.unusedVariables false
set_option linter.unusedSimpArgs false
namespace Go.Proofs.YthlpigffjbhmoaaDoor
open Go.RowKit Go.Shelf
theorem take_succ {l : List Ve} {k : Nat} {v : Ve} (h : l[k]? = some v) : l.take (k + 1) = l.take k ++ [v] := by
  rw [List.take_add_one, h]; rfl
set_option maxRecDepth 100000 in
set_option maxHeartbeats 4000000 in
theorem check_any (a : Option Addr) (n cap : Nat) (l : List Ve) (hn : l.length = n) (w : World) (hL : VesAt w.heap.size w a l) (hnx : n ≤ cap ∧ cap ≤ maxLen) :
    Calls Tryd.prog 18 #[.slice a n cap] w fun e w' => e = .returned (.int .i64 (tErr l)) ∧ Below w.heap.size w w' := by
  unfold maxLen at hnx
  obtain ⟨hcap, hmx⟩ := hnx
  have HL := Lib.hid hL
  have HN := Lib.hid hn
  have HMX := Lib.hid (show n ≤ maxLen by unfold maxLen; omega)
  clear hL hn
  go_enter Tryd.func18, Tryd.ntmps18
  go_wp2_with fail
  go_loopw [7] (fun i wr => ∃ k : Nat, k ≤ n ∧ i = .int .i64 k ∧ TabMay (l.take k) ∧ Below w.heap.size w wr) (fun i _ => (n - intOf i).toNat)
  case atStart => exact ⟨0, Nat.zero_le _, rfl, by rw [List.take_zero]; exact tab_nil, Below.refl _ _⟩
  case round =>
    obtain ⟨k, hk, rfl, htab, hb⟩ := hrel
    have HT := Lib.hid htab
    have HB := Lib.hid hb
    clear htab hb
    by_cases hlt : k < n
    · have hlti : (k : Int) < n := by omega
      obtain ⟨⟨f, ps⟩, hv⟩ : ∃ v, l[k]? = some v := ⟨_, List.getElem?_eq_getElem (by rw [HN.out]; exact hlt)⟩
      obtain ⟨b, o, pa, pc, rfl, hbl, c0, c1, hle, hup⟩ := HL.out.next HB.out (Nat.le_refl _) k _ hv
      obtain ⟨m, hm⟩ : ∃ m, ps.length = m := ⟨_, rfl⟩
      simp only at c0 c1 hle hup
      rw [hm] at c1 hle
      have HV := Lib.hid hv
      have HSUC := Lib.hid (take_succ hv)
      have hzX := heap_alloc_new wr (.cells #[.int .i64 f, .slice pa m pc] 42)
      have hbX := HB.out.alloc HB.out.size (.cells #[.int .i64 f, .slice pa m pc] 42)
      have hsX : (wr.alloc (.cells #[.int .i64 f, .slice pa m pc] 42)).heap.size = wr.heap.size + 1 := World.size_alloc _ _
      obtain ⟨X, hX⟩ : ∃ X, wr.alloc (.cells #[.int .i64 f, .slice pa m pc] 42) = X := ⟨_, rfl⟩
      rw [hX] at hzX hbX hsX
      have hXw : Below wr.heap.size wr X := by rw [← hX]; exact (Below.refl wr.heap.size wr).alloc (Nat.le_refl _) _
      have HX := Lib.hid hX
      have HM := Lib.hid (mayFollow_any (some ⟨b, o, none⟩) k cap (l.take k) (by rw [List.length_take, HN.out]; omega) f pa m pc ps hm X.drew
        (show VesAt X.drew.heap.size X.drew _ _ from ((HL.out.next hbX (Nat.le_refl _)).mono hbX.size).take k) (show PrAt X.drew.heap.size X.drew _ _ from (hup.next (hXw.drew) HB.out.size).mono hbX.size) (by have := HMX.out; omega) (by unfold maxLen at *; omega))
      have q1 : X.drew.cell? ⟨wr.heap.size, 0, none⟩ = some (.int .i64 f) ∧ X.drew.cell? ⟨wr.heap.size, 1, none⟩ = some (.slice pa m pc) := ⟨cell_of_row X _ 0 _ _ _ hzX, cell_of_row X _ 1 _ _ _ hzX⟩
      have HZX := Lib.hid hzX
      have HBX := Lib.hid hbX
      have HSX := Lib.hid hsX
      have hkn : (k : Int) ≤ cap := by omega
      have hkn' : k ≤ cap := by omega
      clear hv hm hX hzX hbX hsX hup hXw
      by_cases hf : Follows (l.take k) ⟨f, ps⟩
      · rw [decide_eq_true hf] at HM
        have HF := Lib.hid hf
        clear hf
        go_wp2_with fail
        rw [HX.out]
        go_region_held3 (fun w' => w'.cell? ⟨wr.heap.size, 0, none⟩ = some (.int .i64 f) ∧ w'.cell? ⟨wr.heap.size, 1, none⟩ = some (.slice pa m pc))
          (first | (with_reducible exact q1) | (with_reducible exact q2) | go_keep)
          (first | (go_at_call 30; ((with_reducible refine HM.out.mono ?_); rintro e w2' ⟨rfl, hB2'⟩; have g2 := (hB2'.block wr.heap.size (by rw [show X.drew.heap.size = wr.heap.size + 1 from HSX.out]; omega)).trans HZX.out; have q2 : w2'.cell? ⟨wr.heap.size, 0, none⟩ = some (.int .i64 f) ∧ w2'.cell? ⟨wr.heap.size, 1, none⟩ = some (.slice pa m pc) := ⟨cell_of_row w2' _ 0 _ _ _ g2, cell_of_row w2' _ 1 _ _ _ g2⟩; have HB2 := Lib.hid (HBX.out.drew.trans (hB2'.mono HBX.out.size)); clear g2 hB2')))
        all_goals
          rename_i hHeld
          clear hHeld q1 q2 c0 c1
          go_wp2
          go_roundw
          case rel => exact ⟨k + 1, by omega, by go_num, by rw [HSUC.out]; exact (tab_snoc _ _).2 ⟨HT.out, HF.out⟩, HB2.out⟩
          case measure => first | (simp [intOf]; done) | (simp [intOf]; omega)
      · rw [decide_eq_false hf] at HM
        have HF := Lib.hid hf
        clear hf
        go_wp2_with fail
        rw [HX.out]
        go_region_held3 (fun w' => w'.cell? ⟨wr.heap.size, 0, none⟩ = some (.int .i64 f) ∧ w'.cell? ⟨wr.heap.size, 1, none⟩ = some (.slice pa m pc))
          (first | (with_reducible exact q1) | (with_reducible exact q2) | go_keep)
          (first | (go_at_call 30; ((with_reducible refine HM.out.mono ?_); rintro e w2' ⟨rfl, hB2'⟩; have g2 := (hB2'.block wr.heap.size (by rw [show X.drew.heap.size = wr.heap.size + 1 from HSX.out]; omega)).trans HZX.out; have q2 : w2'.cell? ⟨wr.heap.size, 0, none⟩ = some (.int .i64 f) ∧ w2'.cell? ⟨wr.heap.size, 1, none⟩ = some (.slice pa m pc) := ⟨cell_of_row w2' _ 0 _ _ _ g2, cell_of_row w2' _ 1 _ _ _ g2⟩; have HB2 := Lib.hid (HBX.out.drew.trans (hB2'.mono HBX.out.size)); clear g2 hB2')))
        all_goals
          rename_i hHeld
          clear hHeld q1 q2 c0 c1
          go_wp2
          go_ret
          rw [tErr_no (fun h => HF.out (tab_at h HV.out))]
          exact ⟨rfl, HB2.out⟩
    · have hke : k = n := by omega
      subst hke
      have hnl : ¬ ((k : Int) < k) := by omega
      have HYES := Lib.hid (tErr_yes (l := l) (by have := HT.out; rwa [List.take_of_length_le (by have := HN.out; omega)] at this))
      go_wp2
      go_ret
      rw [HYES.out]
      exact ⟨rfl, HB.out⟩
end Go.Proofs.YthlpigffjbhmoaaDoor
