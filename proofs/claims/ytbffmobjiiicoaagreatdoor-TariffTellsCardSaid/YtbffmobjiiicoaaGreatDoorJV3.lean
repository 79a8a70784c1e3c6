/- Joined: VRefA. -/
import Derived.Test.YtbffmobjiiicoaaGreatDoorJV2
section
/- The document's At. -/
set_option linter.unusedVariables false
set_option linter.unusedSimpArgs false
namespace Go.Proofs.YtbffmobjiiicoaaGreatDoor.V10
open Go.RowKit Go.Shelf
set_option maxRecDepth 100000 in
set_option maxHeartbeats 2000000 in
theorem rAt_any (a : Option Addr) (n cap : Nat) (l : List Ve) (hn : l.length = n) (t : Int) (w : World) (hL : VesAt w.heap.size w a l) (hnx : n ≤ cap ∧ cap ≤ maxLen) (hp : l.Pairwise Ahead) :
    Calls Tryz.prog 37 #[.slice a n cap, .int .i64 t] w fun e w' => e = .returned (.int .i64 ((cnt l t : Int) - 1)) ∧ Below w.heap.size w w' := by
  unfold maxLen at hnx
  obtain ⟨hcap, hmx⟩ := hnx
  have HL := Lib.hid hL
  have HN := Lib.hid hn
  have HP := Lib.hid hp
  obtain ⟨c, hc⟩ : ∃ c, cnt l t = c := ⟨_, rfl⟩
  have hcl := cnt_le l t
  rw [hc, hn] at hcl
  rw [hc]
  have HC := Lib.hid hc
  clear hL hn hp hc
  go_enter Tryz.func37, Tryz.ntmps37
  go_wp2_with fail
  go_loopw [5, 6] (fun u i wr => ∃ k : Nat, k ≤ n ∧ i = .int .i64 k ∧ u = .int .i64 ((min k c : Nat) - 1 : Int) ∧ Below w.heap.size w wr) (fun _ i _ => (n - intOf i).toNat)
  case atStart => exact ⟨0, Nat.zero_le _, rfl, by rw [Nat.zero_min]; rfl, Below.refl _ _⟩
  case round =>
    obtain ⟨k, hk, rfl, rfl, hb⟩ := hrel
    have HB := Lib.hid hb
    clear hb
    by_cases hlt : k < n
    · have hlti : (k : Int) < n := by omega
      obtain ⟨v, hv⟩ : ∃ v, l[k]? = some v := ⟨_, List.getElem?_eq_getElem (by rw [HN.out]; exact hlt)⟩
      have hiff := cnt_iff HP.out hv t
      rw [HC.out] at hiff
      obtain ⟨b, o, pa, pc, rfl, hbl, c0, c1, hle, hup⟩ := HL.out.next HB.out (Nat.le_refl _) k _ hv
      obtain ⟨f, hf⟩ : ∃ f, v.f = f := ⟨_, rfl⟩
      rw [hf] at c0 hiff
      clear c1 hle hup hf hv
      by_cases q : f ≤ t
      · have HK := Lib.hid (hiff.1 q)
        clear hiff
        go_wp2
        go_roundw
        case rel => exact ⟨k + 1, by omega, by go_num, by have := HK.out; congr 1; omega, HB.out⟩
        case measure => first | (simp [intOf]; done) | (simp [intOf]; omega)
      · have HK := Lib.hid (show ¬ k < c from fun h => q (hiff.2 h))
        clear hiff
        go_wp2
        go_roundw
        case rel => exact ⟨k + 1, by omega, by go_num, by have := HK.out; congr 1; omega, HB.out⟩
        case measure => first | (simp [intOf]; done) | (simp [intOf]; omega)
    · have hke : k = n := by omega
      subst hke
      have hnl : ¬ ((k : Int) < k) := by omega
      rw [show ((min k c : Nat) - 1 : Int) = (c : Int) - 1 by omega]
      go_wp2
      go_ret
      exact ⟨rfl, HB.out⟩
end Go.Proofs.YtbffmobjiiicoaaGreatDoor.V10
end
