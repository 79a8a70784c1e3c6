/- The document's Value. -/
import Derived.Test.YtnomnigpcpfgiaaRRefN
set_option linter.unusedVariables false
namespace Go.Proofs.Ytnomnigpcpfgiaa
open Go.RowKit Go.Sort
theorem bytes_get (ls : List Int) (k : Nat) (hk : k < 2 * ls.length) : (bytesL ls).getD k 0 = if k % 2 = 1 then ls.getD (k / 2) 0 % 256 else ls.getD (k / 2) 0 / 256 := by
  induction ls generalizing k with
  | nil => simp at hk
  | cons x l ih =>
    have hb : bytesL (x :: l) = x / 256 :: x % 256 :: bytesL l := rfl
    rw [hb]
    match k, hk with
    | 0, _ => simp
    | 1, _ => simp
    | k + 2, hk =>
      have := ih k (by simp at hk; omega)
      rw [show (k + 2) % 2 = k % 2 by omega, show (k + 2) / 2 = k / 2 + 1 by omega]
      simpa using this
/-- The bytes that are in place behind k rounds. -/
def inPlace (ls : List Int) (o : Int) (k p : Nat) : Int := if pl o p (2 * ls.length) < k then (bytesL ls).getD (pl o p (2 * ls.length)) 0 else 0
theorem inPlace_succ (ls : List Int) (o : Int) (ho : o = 1 ∨ o = 2 ∨ o = 3 ∨ o = 4) (k p : Nat) (hk : k < 2 * ls.length) (hp : p < 2 * ls.length) :
    (if p = pl o k (2 * ls.length) then (bytesL ls).getD k 0 else inPlace ls o k p) = inPlace ls o (k + 1) p := by
  unfold inPlace
  by_cases e : p = pl o k (2 * ls.length)
  · rw [if_pos e, e, pl_pl o ho _ k hk, if_pos (by omega)]
  · rw [if_neg e]
    have hne : pl o p (2 * ls.length) ≠ k := fun h => e (by rw [← h, pl_pl o ho _ p hp])
    by_cases h1 : pl o p (2 * ls.length) < k
    · rw [if_pos h1, if_pos (by omega)]
    · rw [if_neg h1, if_neg (by omega)]
theorem jn_lead (f : Nat → Int) (z : Nat) (hz : ∀ j, j < z → f j = 0) : ∀ k, jn f (z + k) = jn (fun j => f (z + j)) k := by
  have h0 : ∀ i, i ≤ z → jn f i = 0 := by
    intro i
    induction i with
    | zero => intro _; rfl
    | succ i ih => intro hi; simp only [jn]; rw [ih (by omega), hz i (by omega)]; omega
  intro k
  induction k with
  | zero => simpa [jn] using h0 z (Nat.le_refl _)
  | succ k ih => rw [← Nat.add_assoc]; simp only [jn]; rw [ih]
theorem val_places (ls : List Int) (o : Int) (hm : ls.length = 1 ∨ ls.length = 2 ∨ ls.length = 4) : valL ls o = jn (fun j => (bytesL ls).getD (pl o j (2 * ls.length)) 0) (2 * ls.length) := by
  unfold valL
  have h := jn_lead (vb ls o) (8 - 2 * ls.length) (fun j hj => by unfold vb; rw [if_neg (by omega)]) (2 * ls.length)
  rw [show 8 - 2 * ls.length + 2 * ls.length = 8 by omega] at h
  rw [h]
  congr 1
  funext j
  unfold vb
  rw [if_pos (by omega), Nat.add_sub_cancel_left]
theorem jn_small (f : Nat → Int) (hf : ∀ j, 0 ≤ f j ∧ f j < 256) (k : Nat) (hk : k ≤ 7) : 0 ≤ jn f k ∧ jn f k ≤ 72057594037927935 :=
  jn_bd f (fun j _ => by have := hf j; omega) k hk
set_option maxRecDepth 100000 in
set_option maxHeartbeats 4000000 in
theorem rvalue_yes (b off c : Nat) (ls : List Int) (o : Int) (hm : ls.length = 1 ∨ ls.length = 2 ∨ ls.length = 4) (ho : o = 1 ∨ o = 2 ∨ o = 3 ∨ o = 4) (hls : ∀ x ∈ ls, 0 ≤ x ∧ x < 65536) (w : World) (hb : b < w.heap.size) (hcs : ∀ j, j < ls.length → w.cell? ⟨b, off + j, none⟩ = some (.int .u16 (ls.getD j 0))) :
    Calls Try.prog 13 #[.slice (some ⟨b, off, none⟩) ls.length c, .int .i64 o] w (Num (valL ls o) 0 w) := by
  obtain ⟨i0, hi, hz0, hz1, hz2⟩ := parts8
  have hmay := may_any ls.length hm w
  have hm8 : 2 * ls.length ≤ 8 := by omega
  have hlo : decide (o < 1) = false := by simp; omega
  have hhi : decide (4 < o) = false := by simp; omega
  have HV := Lib.hid (val_places ls o hm)
  have HO := Lib.hid ho
  have HM := Lib.hid hm
  have HI0 := Lib.hid hi
  have HZ0 := Lib.hid hz0
  have HZ1 := Lib.hid hz1
  have HZ2 := Lib.hid hz2
  have HC := Lib.hid hcs
  have HL := Lib.hid hls
  have hN : 1 ≤ ls.length ∧ ls.length ≤ 4 := by omega
  clear ho hm hi hz0 hz1 hz2 hcs hls
  go_enter Try.func13, Try.ntmps13
  go_wp2_with fail
  refine hmay.mono ?_
  rintro e _ ⟨rfl, rfl⟩
  go_wp2_with (at_make; refine wpList_make_full _ rfl _ _ 42 rfl w.heap.size 5 i0 (.int .u8 0) 1 Try.underlying42 HI0.out HZ0.out HZ1.out _ _ _ _ (2 * ls.length) rfl rfl (by omega) (by omega) (by rw [HZ2.out]; omega) (by unfold maxLen; omega) (Nat.le_refl _) ?_; intro w1 hO1 hG1)
  have hB1 : Below w.heap.size w w1 := (Below.refl _ _).grown hG1 (Nat.le_refl _) (by simp)
  have hR1 : Row8 w.heap.size (2 * ls.length) (fun _ => 0) w1 := Row8.of_owns hO1 (fun j hj => made8_zero (2 * ls.length) j hj)
  clear hO1 hG1 hmay
  go_loopw [8] (fun i wr => ∃ k : Nat, k ≤ 2 * ls.length ∧ i = .int .i64 k ∧ Row8 w.heap.size (2 * ls.length) (inPlace ls o k) wr ∧ Below w.heap.size w wr) (fun i _ => 2 * ls.length - (RowKit.intOf i).toNat)
  case atStart => exact ⟨0, Nat.zero_le _, rfl, hR1.congr (fun j hj => by simp [inPlace]), hB1⟩
  case round =>
    obtain ⟨k, hk, rfl, hR, hB⟩ := hrel
    by_cases hlt : k < 2 * ls.length
    · have hpl := place_any o HO.out k (2 * ls.length) hlt hm8 (by omega)
      have e1 : ((2 * ls.length : Nat) : Int) = 2 * (ls.length : Int) := by omega
      rw [e1] at hpl
      have hk2 : k / 2 < ls.length := by omega
      have cl := (hB.cell (p := ⟨b, off + k / 2, none⟩) hb).trans (HC.out (k / 2) hk2)
      have hx := HL.out (ls.getD (k / 2) 0) (by simp [List.getD, hk2])
      have hby := bytes_get ls k hlt
      have hpp := pl_lt o ls.length k hlt
      obtain ⟨cx, fx⟩ := hR _ hpp
      have hnew := fun v' (hv' : v' = (bytesL ls).getD k 0) => (hR.set (pl o k (2 * ls.length)) v').congr (f' := inPlace ls o (k + 1)) (fun p hp => by rw [hv']; exact inPlace_succ ls o HO.out k p hlt hp)
      have HN := Lib.hid hnew
      have HB := Lib.hid hB
      have HBY := Lib.hid hby
      have hlt2 : (k : Int) < 2 * (ls.length : Int) := by omega
      generalize ls.getD (k / 2) 0 = x at *
      generalize pl o k (2 * ls.length) = P at *
      clear hnew hB hby hR hR1 e1
      have q3 : (P : Int) < 2 * (ls.length : Int) := by omega
      by_cases h2 : k % 2 = 1
      · have h2z : ((k : Int) % 2 == 1) = true := by simp; omega
        have hw : IntKind.u8.wrap (x % 256) = x % 256 := by rw [IntKind.wrap_u8]; omega
        have HBY2 : Hid (x % 256 = (bytesL ls).getD k 0) := by show _ = _; rw [HBY.out, if_pos h2]
        clear h2
        go_wp2_with (go_at_call 32; refine (hpl _).mono ?_; rintro e w' ⟨rfl, rfl⟩)
        go_roundw
        case rel => exact ⟨k + 1, by omega, by simp, HN.out _ HBY2.out, HB.out.setCell (p := ⟨w.heap.size, P, none⟩) (Nat.le_refl _) _⟩
        case measure => simp [RowKit.intOf]; omega
      · have h2z : ((k : Int) % 2 == 1) = false := by simp; omega
        have hw : IntKind.u8.wrap (x / 256) = x / 256 := by rw [IntKind.wrap_u8]; omega
        have HBY2 : Hid (x / 256 = (bytesL ls).getD k 0) := by show _ = _; rw [HBY.out, if_neg h2]
        clear h2
        go_wp2_with (go_at_call 32; refine (hpl _).mono ?_; rintro e w' ⟨rfl, rfl⟩)
        go_roundw
        case rel => exact ⟨k + 1, by omega, by simp, HN.out _ (by first | exact HBY2.out | (rw [← HBY2.out, Int.tdiv_eq_ediv_of_nonneg hx.1, IntKind.wrap_u16]; omega)), HB.out.setCell (p := ⟨w.heap.size, P, none⟩) (Nat.le_refl _) _⟩
        case measure => simp [RowKit.intOf]; omega
    · have hkk : k = 2 * ls.length := by omega
      have hR2 : Row8 w.heap.size (2 * ls.length) (fun j => (bytesL ls).getD (pl o j (2 * ls.length)) 0) wr := hR.congr (fun p hp => by
        unfold inPlace; rw [if_pos (by have := pl_lt o ls.length p hp; omega)])
      have hbd : ∀ j, 0 ≤ (bytesL ls).getD (pl o j (2 * ls.length)) 0 ∧ (bytesL ls).getD (pl o j (2 * ls.length)) 0 < 256 := by
        intro j
        generalize pl o j (2 * ls.length) = i
        by_cases hi : i < (bytesL ls).length
        · exact bytesL_bd ls HL.out _ (by simp [List.getD, hi])
        · rw [show (bytesL ls).getD i 0 = 0 by simp [List.getD, hi]]; omega
      have hkz : (k : Int) = 2 * (ls.length : Int) := by omega
      obtain ⟨F, hF⟩ : ∃ F : Nat → Int, (fun j => (bytesL ls).getD (pl o j (2 * ls.length)) 0) = F := ⟨_, rfl⟩
      have hbd2 : ∀ j, 0 ≤ F j ∧ F j < 256 := fun j => by rw [← hF]; exact hbd j
      rw [hF] at hR2
      have HV2 : Hid (valL ls o = jn F (2 * ls.length)) := by show _ = _; rw [← hF]; exact HV.out
      have HR2 := Lib.hid hR2
      have HB := Lib.hid hB
      have HK := Lib.hid hkk
      clear hR hR1 hR2 hbd hF hkk hB HV
      go_wp2
      go_loopw [10, 11] (fun t i wx => wx = wr ∧ ∃ j : Nat, j ≤ 2 * ls.length ∧ i = .int .i64 j ∧ t = .int .u64 (jn F j)) (fun _ i _ => 2 * ls.length - (RowKit.intOf i).toNat)
      case atStart => exact ⟨rfl, 0, Nat.zero_le _, rfl, rfl⟩
      case round =>
        obtain ⟨rfl, j, hj, rfl, rfl⟩ := hrel
        by_cases hlj : j < 2 * ls.length
        · obtain ⟨cj, _⟩ := HR2.out j hlj
          have bj := hbd2 j
          have sj := jn_small F hbd2 j (by omega)
          have HJ : Hid (jn F (j + 1) = jn F j * 256 + F j) := (rfl : jn F (j + 1) = _)
          have hlj2 : (j : Int) < 2 * (ls.length : Int) := by omega
          generalize jn F j = Y at *
          generalize F j = z at *
          have s3 : IntKind.u64.wrap z = z := by rw [IntKind.wrap_u64]; omega
          have s4 : IntKind.u64.wrap (Y * 256) = Y * 256 := by rw [IntKind.wrap_u64]; omega
          have s5 : IntKind.u64.wrap (Y * 256 + z) = Y * 256 + z := by rw [IntKind.wrap_u64]; omega
          go_wp2
          go_roundw
          case rel => exact ⟨by trivial, j + 1, by omega, by simp, by rw [HJ.out]⟩
          case measure => simp [RowKit.intOf]; omega
        · obtain rfl : j = 2 * ls.length := by omega
          have hjz : ((2 * ls.length : Nat) : Int) = 2 * (ls.length : Int) := by omega
          go_wp2
          exact bodyPost_ret (v := .tuple #[.int .u64 (valL ls o), .int .i64 0]) (by simp [results, Try.results13, go_sem, HV2.out]) rfl ⟨rfl, HB.out⟩
end Go.Proofs.Ytnomnigpcpfgiaa
