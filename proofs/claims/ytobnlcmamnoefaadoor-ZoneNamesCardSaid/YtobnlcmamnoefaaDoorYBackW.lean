/- The walk of the statement ZoneBack, over any answers. -/
import Derived.Test.YtobnlcmamnoefaaDoorYInstsW
import Derived.Test.YtobnlcmamnoefaaDoorYAliveW
import Derived.Deep.CutBlock
import Derived.Deep.DeepCutAuto
import Derived.Deep.RegionHeld3
import Derived.BigQuiet
import Derived.Deep.QuietTactic
set_option linter.unusedVariables false
set_option linter.unusedSimpArgs false
namespace Go.Proofs.YtobnlcmamnoefaaDoor
open Go.RowKit Go.Shelf
/-- What Local answers. -/
def LocalIs (off t : Int) (a : Option Addr) (len cap : Nat) (u0 u1 u2 u3 u4 u5 : Int) (B : Bool) (E : Int) (X : World) : Prop :=
  Calls Tryd.prog 17 #[zoneV off a len cap, .int .i64 t] X fun e w' => e = .returned (.tuple #[momV u0 u1 u2 u3 u4 u5, .bool B, .int .i64 E]) ∧ Below X.heap.size X w'
/-- What Instants answers. -/
def InstsIs (off : Int) (a : Option Addr) (len cap : Nat) (y m d h mi s : Int) (L : List Int) (X : World) : Prop :=
  Calls Tryd.prog 20 #[zoneV off a len cap, momV y m d h mi s] X (Insts L X)
def InstsNo (off : Int) (a : Option Addr) (len cap : Nat) (y m d h mi s : Int) (G : Int) (X : World) : Prop :=
  Calls Tryd.prog 20 #[zoneV off a len cap, momV y m d h mi s] X fun e w' => e = .returned (.tuple #[.slice none 0 0, .int .i64 G]) ∧ Below X.heap.size X w'
def BackA (off t : Int) (a : Option Addr) (len cap : Nat) (w : World) (u0 u1 u2 u3 u4 u5 E : Int) (L1 : List Int) : Prop :=
  (E = 0 ∧ t ∈ L1 ∧ (len = 0 → L1.length = 1) ∧ L1.length ≤ 30 ∧ ∀ X, Below w.heap.size w X → InstsIs off a len cap u0 u1 u2 u3 u4 u5 L1 X) ∨ E = 60 ∨ E = 70
def BackB (off t : Int) (a : Option Addr) (len cap : Nat) (w : World) (y m d h mi s G : Int) (L2 : List Int) (bf : Nat → Bool) : Prop :=
  (G = 0 ∧ (∀ j, j + 1 < L2.length → L2.getD j 0 < L2.getD (j + 1) 0) ∧ L2.length ≤ 30 ∧ (∀ X, Below w.heap.size w X → InstsIs off a len cap y m d h mi s L2 X) ∧
    ∀ j, j < L2.length → ∀ X, Below w.heap.size w X → LocalIs off (L2.getD j 0) a len cap y m d h mi s (bf j) 0 X) ∨
  ((G = 60 ∨ G = 70) ∧ ∀ X, Below w.heap.size w X → InstsNo off a len cap y m d h mi s G X)
set_option maxRecDepth 100000 in
set_option maxHeartbeats 8000000 in
theorem zback_walk (off t : Int) (a : Option Addr) (len cap : Nat) (y m d h mi s : Int) (w : World) (hT : Tabs w) (hl : len ≤ 100) (u0 u1 u2 u3 u4 u5 E : Int) (B : Bool) (L1 L2 : List Int) (G : Int) (bf : Nat → Bool)
    (HL : ∀ X, Below w.heap.size w X → LocalIs off t a len cap u0 u1 u2 u3 u4 u5 B E X)
    (HA : BackA off t a len cap w u0 u1 u2 u3 u4 u5 E L1) (HB : BackB off t a len cap w y m d h mi s G L2 bf) :
    Calls Tryd.prog 6 #[zoneV off a len cap, .int .i64 t, momV y m d h mi s] w fun e w' => e = .returned (.bool true) ∧ Below w.heap.size w w' := by
  have hli : (len : Int) ≤ 100 := by omega
  have hb0 := (Below.refl _ w).alloc (Nat.le_refl _) (.cells #[.int .i64 off, .slice a len cap] 24)
  have hb1 := hb0.alloc hb0.size (.cells #[.int .i64 y, .int .i64 m, .int .i64 d, .int .i64 h, .int .i64 mi, .int .i64 s] 44)
  have hm := heap_alloc_new (w.alloc (.cells #[.int .i64 off, .slice a len cap] 24)) (.cells #[.int .i64 y, .int .i64 m, .int .i64 d, .int .i64 h, .int .i64 mi, .int .i64 s] 44)
  have hz := heap_old (heap_alloc_new w (.cells #[.int .i64 off, .slice a len cap] 24)) (.cells #[.int .i64 y, .int .i64 m, .int .i64 d, .int .i64 h, .int .i64 mi, .int .i64 s] 44)
  rw [World.size_alloc] at hm
  have H1 := Lib.hid (alive_any _ (hT.next hb1))
  have HBB := Lib.hid hb1
  have HM := Lib.hid hm
  have HZ := Lib.hid hz
  have HLL := Lib.hid HL
  have HAA := Lib.hid HA
  have HB2 := Lib.hid HB
  clear hb0 hb1 hm hz hT HL HA HB hl
  go_enter Tryd.func6, Tryd.ntmps6
  go_wp2_with fail
  refine H1.out.mono ?_
  rintro e X1 ⟨rfl, hB⟩
  have hb := HBB.out.trans (hB.mono HBB.out.size)
  have hm := (hB.block (w.heap.size + 1) (Array.getElem?_eq_some_iff.1 HM.out).1).trans HM.out
  have hz := (hB.block w.heap.size (Array.getElem?_eq_some_iff.1 HZ.out).1).trans HZ.out
  have z0 : X1.cell? ⟨w.heap.size, 0, none⟩ = some (.int .i64 off) := cell_of_row X1 _ 0 _ _ _ hz
  have z1 : X1.cell? ⟨w.heap.size, 1, none⟩ = some (.slice a len cap) := cell_of_row X1 _ 1 _ _ _ hz
  have HB1 := Lib.hid hb
  have HM1 := Lib.hid hm
  have HZ1 := Lib.hid hz
  clear hB hb hm hz HBB HM HZ H1
  go_wp2_with fail
  refine (HLL.out _ HB1.out).mono ?_
  rintro e X2 ⟨rfl, hB⟩
  have hb := HB1.out.trans (hB.mono HB1.out.size)
  have hm := (hB.block (w.heap.size + 1) (Array.getElem?_eq_some_iff.1 HM1.out).1).trans HM1.out
  have hz := (hB.block w.heap.size (Array.getElem?_eq_some_iff.1 HZ1.out).1).trans HZ1.out
  have hb2 := hb.alloc hb.size (.cells #[.int .i64 u0, .int .i64 u1, .int .i64 u2, .int .i64 u3, .int .i64 u4, .int .i64 u5] 44)
  have hx := heap_alloc_new X2 (.cells #[.int .i64 u0, .int .i64 u1, .int .i64 u2, .int .i64 u3, .int .i64 u4, .int .i64 u5] 44)
  have hm2 := heap_old hm (.cells #[.int .i64 u0, .int .i64 u1, .int .i64 u2, .int .i64 u3, .int .i64 u4, .int .i64 u5] 44)
  have hz2 := heap_old hz (.cells #[.int .i64 u0, .int .i64 u1, .int .i64 u2, .int .i64 u3, .int .i64 u4, .int .i64 u5] 44)
  obtain ⟨X3, hX3⟩ : ∃ X3, X3 = X2.alloc (.cells #[.int .i64 u0, .int .i64 u1, .int .i64 u2, .int .i64 u3, .int .i64 u4, .int .i64 u5] 44) := ⟨_, rfl⟩
  rw [← hX3] at hb2 hx hm2 hz2
  have HB3 := Lib.hid hb2
  have HM3 := Lib.hid hm2
  have HZ3 := Lib.hid hz2
  have HX3 := Lib.hid hx
  have H3 := Lib.hid hX3
  clear hB hb hm hz z0 z1 HB1 HM1 HZ1 hb2 hx hm2 hz2 hX3 HLL
  go_upto_if 39 with fail
  rw [← H3.out]
  go_cut [11, 12, 13, 14] from 40 to 77 (fun _ _ _ _ wx => Below X3.heap.size X3 wx)
  case first =>
    clear HB2
    rcases HAA.out with ⟨rfl, ht, hlz, hll, HI⟩ | rfl | rfl
    · have z0 : X3.cell? ⟨w.heap.size, 0, none⟩ = some (.int .i64 off) := cell_of_row X3 _ 0 _ _ _ HZ3.out
      have z1 : X3.cell? ⟨w.heap.size, 1, none⟩ = some (.slice a len cap) := cell_of_row X3 _ 1 _ _ _ HZ3.out
      have x0 : X3.cell? ⟨X2.heap.size, 0, none⟩ = some (.int .i64 u0) := cell_of_row X3 _ 0 _ _ _ HX3.out
      have x1 : X3.cell? ⟨X2.heap.size, 1, none⟩ = some (.int .i64 u1) := cell_of_row X3 _ 1 _ _ _ HX3.out
      have x2 : X3.cell? ⟨X2.heap.size, 2, none⟩ = some (.int .i64 u2) := cell_of_row X3 _ 2 _ _ _ HX3.out
      have x3 : X3.cell? ⟨X2.heap.size, 3, none⟩ = some (.int .i64 u3) := cell_of_row X3 _ 3 _ _ _ HX3.out
      have x4 : X3.cell? ⟨X2.heap.size, 4, none⟩ = some (.int .i64 u4) := cell_of_row X3 _ 4 _ _ _ HX3.out
      have x5 : X3.cell? ⟨X2.heap.size, 5, none⟩ = some (.int .i64 u5) := cell_of_row X3 _ 5 _ _ _ HX3.out
      have HII := Lib.hid HI
      have HT := Lib.hid ht
      have HLZ := Lib.hid hlz
      clear HI HAA ht hlz
      go_wp2_with fail
      refine (HII.out _ HB3.out).mono ?_
      rintro e X4 ⟨al, cl, rfl, hO, hB⟩
      have hz := (hB.block w.heap.size (Array.getElem?_eq_some_iff.1 HZ3.out).1).trans HZ3.out
      have z0' : X4.cell? ⟨w.heap.size, 1, none⟩ = some (.slice a len cap) := cell_of_row X4 _ 1 _ _ _ hz
      have hbys := hO.bys
      have HB4 := Lib.hid hB
      obtain ⟨n1, hn1⟩ : ∃ n, n = L1.length := ⟨_, rfl⟩
      rw [← hn1] at hll
      have HN1 := Lib.hid hn1
      rw [← hn1] at hO hbys ⊢
      clear hB hz z0 z1 x0 x1 x2 x3 x4 x5 hn1 HII hO HX3 HM3 HZ3 H3
      have HBY := Lib.hid hbys
      clear hbys
      go_wp2_with fail
      go_loop [13, 14] (fun mt i => ∃ k : Nat, k ≤ n1 ∧ i = .int .i64 k ∧ mt = .bool (decide (t ∈ L1.take k))) (fun _ i => (n1 - intOf i).toNat)
      case atStart => exact ⟨0, Nat.zero_le _, rfl, by simp⟩
      case round =>
        obtain ⟨k, hk, rfl, rfl⟩ := hrel
        by_cases hlt : k < n1
        · have hlti : (k : Int) < n1 := by omega
          obtain ⟨b, o, rfl, hb, hc⟩ := (at64_of_bys HBY.out) k (by rw [← HN1.out]; exact hlt)
          have htk : L1.take (k + 1) = L1.take k ++ [L1.getD k 0] := by
            have h : k < L1.length := by rw [← HN1.out]; exact hlt
            rw [List.take_succ_eq_append_getElem h]
            simp [List.getD, h]
          by_cases hm : t ∈ L1.take k
          · have hmb : decide (t ∈ L1.take k) = true := decide_eq_true hm
            have HK := Lib.hid (show decide (t ∈ L1.take (k + 1)) = true from decide_eq_true (by rw [htk]; simp [hm]))
            clear hm htk
            go_wp2_with fail
            go_round
            case rel => exact ⟨k + 1, by omega, by go_num, by rw [HK.out]⟩
            case measure => simp [intOf]; omega
          · have hmb : decide (t ∈ L1.take k) = false := decide_eq_false hm
            have HK := Lib.hid (show decide (t ∈ L1.take (k + 1)) = (L1.getD k 0 == t) from by
              rw [htk, Bool.eq_iff_iff]; simp [hm]; exact eq_comm)
            clear hm htk
            go_wp2_with fail
            go_round
            case rel => exact ⟨k + 1, by omega, by go_num, by rw [HK.out]; rfl⟩
            case measure => simp [intOf]; omega
        · have hke : k = n1 := by omega
          have hnl : ¬ ((k : Int) < n1) := by omega
          have hmt : decide (t ∈ L1.take k) = true := by
            rw [hke, HN1.out, List.take_length]; exact decide_eq_true HT.out
          clear hke
          by_cases h0 : len = 0
          · have b0 : ((len : Int) == 0) = true := by simp [h0]
            have b1 : ((n1 : Int) != 1) = false := by
              have e1 : n1 = 1 := by rw [HN1.out]; exact HLZ.out h0
              simp [e1]
            clear h0
            go_wp2_with fail
            go_meet
            exact HB4.out
          · have b0 : ((len : Int) == 0) = false := by simp; omega
            clear h0
            go_wp2_with fail
            go_meet
            exact HB4.out
    · go_wp2_with fail
      go_meet
      exact Below.refl _ _
    · go_wp2_with fail
      go_meet
      exact Below.refl _ _
  have hb := HB3.out.trans (hcut.mono HB3.out.size)
  have hm := (hcut.block (w.heap.size + 1) (Array.getElem?_eq_some_iff.1 HM3.out).1).trans HM3.out
  have hz := (hcut.block w.heap.size (Array.getElem?_eq_some_iff.1 HZ3.out).1).trans HZ3.out
  have z0 : wc.cell? ⟨w.heap.size, 0, none⟩ = some (.int .i64 off) := cell_of_row wc _ 0 _ _ _ hz
  have z1 : wc.cell? ⟨w.heap.size, 1, none⟩ = some (.slice a len cap) := cell_of_row wc _ 1 _ _ _ hz
  have m0 : wc.cell? ⟨w.heap.size + 1, 0, none⟩ = some (.int .i64 y) := cell_of_row wc _ 0 _ _ _ hm
  have m1 : wc.cell? ⟨w.heap.size + 1, 1, none⟩ = some (.int .i64 m) := cell_of_row wc _ 1 _ _ _ hm
  have m2 : wc.cell? ⟨w.heap.size + 1, 2, none⟩ = some (.int .i64 d) := cell_of_row wc _ 2 _ _ _ hm
  have m3 : wc.cell? ⟨w.heap.size + 1, 3, none⟩ = some (.int .i64 h) := cell_of_row wc _ 3 _ _ _ hm
  have m4 : wc.cell? ⟨w.heap.size + 1, 4, none⟩ = some (.int .i64 mi) := cell_of_row wc _ 4 _ _ _ hm
  have m5 : wc.cell? ⟨w.heap.size + 1, 5, none⟩ = some (.int .i64 s) := cell_of_row wc _ 5 _ _ _ hm
  have HBC := Lib.hid hb
  have HMC := Lib.hid hm
  have HZC := Lib.hid hz
  clear hcut hb hm hz HB3 HM3 HZ3 HAA HX3 H3
  rcases HB2.out with ⟨rfl, hasc, hll, HI, HLo⟩ | ⟨hG, HI⟩
  · have HII := Lib.hid HI
    have HLL := Lib.hid HLo
    have HAS := Lib.hid hasc
    clear HI HLo hasc HB2
    go_wp2_with fail
    refine (HII.out _ HBC.out).mono ?_
    rintro e X5 ⟨al, cl, rfl, hO, hB⟩
    have hb := HBC.out.trans (hB.mono HBC.out.size)
    have hm := (hB.block (w.heap.size + 1) (Array.getElem?_eq_some_iff.1 HMC.out).1).trans HMC.out
    have hz := (hB.block w.heap.size (Array.getElem?_eq_some_iff.1 HZC.out).1).trans HZC.out
    have hbys := hO.bys
    obtain ⟨n2, hn2⟩ : ∃ n, n = L2.length := ⟨_, rfl⟩
    rw [← hn2] at hll
    have HN2 := Lib.hid hn2
    rw [← hn2] at hO hbys ⊢
    have HB5 := Lib.hid hb
    have HM5 := Lib.hid hm
    have HZ5 := Lib.hid hz
    have HBY := Lib.hid hbys
    clear hB hb hm hz hn2 hO hbys HII HBC HMC HZC z0 z1 m0 m1 m2 m3 m4 m5
    go_wp2_with fail
    go_loopw [17] (fun i wr => ∃ k : Nat, k ≤ n2 ∧ i = .int .i64 k ∧ Below X5.heap.size X5 wr) (fun i _ => (n2 - intOf i).toNat)
    case atStart => exact ⟨0, Nat.zero_le _, rfl, Below.refl _ _⟩
    case round =>
      obtain ⟨k, hk, rfl, hBr⟩ := hrel
      by_cases hlt : k < n2
      · have hlti : (k : Int) < n2 := by omega
        have hb := HB5.out.trans (hBr.mono HB5.out.size)
        have hm := (hBr.block (w.heap.size + 1) (Array.getElem?_eq_some_iff.1 HM5.out).1).trans HM5.out
        have hz := (hBr.block w.heap.size (Array.getElem?_eq_some_iff.1 HZ5.out).1).trans HZ5.out
        have z0 : wr.cell? ⟨w.heap.size, 0, none⟩ = some (.int .i64 off) := cell_of_row wr _ 0 _ _ _ hz
        have z1 : wr.cell? ⟨w.heap.size, 1, none⟩ = some (.slice a len cap) := cell_of_row wr _ 1 _ _ _ hz
        obtain ⟨b, o, rfl, hb5, hc5⟩ := (at64_of_bys HBY.out) k (by rw [← HN2.out]; exact hlt)
        have ck : wr.cell? ⟨b, o + k, none⟩ = some (.int .i64 (L2.getD k 0)) := (hBr.cell (p := ⟨b, o + k, none⟩) hb5).trans hc5
        have hLL := HLL.out k (by rw [← HN2.out]; exact hlt)
        have hzl : w.heap.size < wr.heap.size := (Array.getElem?_eq_some_iff.1 hz).1
        have hbl : b < wr.heap.size := Nat.lt_of_lt_of_le hb5 hBr.size
        obtain ⟨v, hv⟩ : ∃ v, v = L2.getD k 0 := ⟨_, rfl⟩
        rw [← hv] at ck hLL hc5
        have HC5 := Lib.hid hc5
        have HV := Lib.hid hv
        have HLK := Lib.hid (show ∀ X, Below w.heap.size w X → Calls Tryd.prog 17 #[zoneV off a len cap, .int .i64 v] X (fun e w' => e = .returned (.tuple #[momV y m d h mi s, .bool (bf k), .int .i64 0]) ∧ Below X.heap.size X w') from hLL)
        have HBR := Lib.hid hb
        have HMR := Lib.hid hm
        have HZR := Lib.hid hz
        have HR := Lib.hid hBr
        clear hb hm hz hc5 hv hLL hBr
        have hw1 := HBR.out.drew
        have hw2 := (HBR.out.alloc HBR.out.size (.cells #[.int .i64 0, .int .i64 0, .int .i64 0, .int .i64 0, .int .i64 0, .int .i64 0] 44)).drew
        have HZ1 := Lib.hid (show wr.drew.heap[w.heap.size]? = _ from HZR.out)
        have HZ2 := Lib.hid (show (wr.alloc (.cells #[.int .i64 0, .int .i64 0, .int .i64 0, .int .i64 0, .int .i64 0, .int .i64 0] 44)).drew.heap[w.heap.size]? = _ from heap_old HZR.out (.cells #[.int .i64 0, .int .i64 0, .int .i64 0, .int .i64 0, .int .i64 0, .int .i64 0] 44))
        have HC1 := Lib.hid (show wr.drew.cell? ⟨b, o + k, none⟩ = _ from ck)
        have HC2 := Lib.hid (show (wr.alloc (.cells #[.int .i64 0, .int .i64 0, .int .i64 0, .int .i64 0, .int .i64 0, .int .i64 0] 44)).drew.cell? ⟨b, o + k, none⟩ = some (.int .i64 v) from (((Below.refl wr.heap.size wr).alloc (Nat.le_refl _) _).cell (p := ⟨b, o + k, none⟩) hbl).trans ck)
        have HN := Lib.hid (show (wr.alloc (.cells #[.int .i64 0, .int .i64 0, .int .i64 0, .int .i64 0, .int .i64 0, .int .i64 0] 44)).drew.heap[wr.heap.size]? = _ from heap_alloc_new wr (.cells #[.int .i64 0, .int .i64 0, .int .i64 0, .int .i64 0, .int .i64 0, .int .i64 0] 44))
        have hbl2 : b < (wr.alloc (.cells #[.int .i64 0, .int .i64 0, .int .i64 0, .int .i64 0, .int .i64 0, .int .i64 0] 44)).drew.heap.size := by rw [show (wr.alloc (.cells #[.int .i64 0, .int .i64 0, .int .i64 0, .int .i64 0, .int .i64 0, .int .i64 0] 44)).drew.heap.size = (wr.alloc (.cells #[.int .i64 0, .int .i64 0, .int .i64 0, .int .i64 0, .int .i64 0, .int .i64 0] 44)).heap.size from rfl, World.size_alloc]; omega
        have q1 : wr.drew.cell? ⟨w.heap.size, 0, none⟩ = some (.int .i64 off) ∧ wr.drew.cell? ⟨w.heap.size, 1, none⟩ = some (.slice a len cap) ∧ wr.drew.cell? ⟨b, o + k, none⟩ = some (.int .i64 v) := ⟨z0, z1, ck⟩
        have q3 : (wr.alloc (.cells #[.int .i64 0, .int .i64 0, .int .i64 0, .int .i64 0, .int .i64 0, .int .i64 0] 44)).drew.cell? ⟨w.heap.size, 0, none⟩ = some (.int .i64 off) ∧ (wr.alloc (.cells #[.int .i64 0, .int .i64 0, .int .i64 0, .int .i64 0, .int .i64 0, .int .i64 0] 44)).drew.cell? ⟨w.heap.size, 1, none⟩ = some (.slice a len cap) ∧ (wr.alloc (.cells #[.int .i64 0, .int .i64 0, .int .i64 0, .int .i64 0, .int .i64 0, .int .i64 0] 44)).drew.cell? ⟨b, o + k, none⟩ = some (.int .i64 v) := ⟨cell_of_row _ _ 0 _ _ _ HZ2.out, cell_of_row _ _ 1 _ _ _ HZ2.out, HC2.out⟩
        go_wp2_with fail
        go_region_held3 (fun w' => w'.cell? ⟨w.heap.size, 0, none⟩ = some (.int .i64 off) ∧ w'.cell? ⟨w.heap.size, 1, none⟩ = some (.slice a len cap) ∧ w'.cell? ⟨b, o + k, none⟩ = some (.int .i64 v))
          (first | (with_reducible exact q1) | (with_reducible exact q2) | (with_reducible exact q3) | (with_reducible exact q4) | go_keep)
          (first
            | (go_at_call 17; ((with_reducible refine (HLK.out _ hw1).mono ?_); rintro e w2' ⟨rfl, hB2⟩; have g2 := (hB2.block w.heap.size (Array.getElem?_eq_some_iff.1 HZ1.out).1).trans HZ1.out; have c2 := (hB2.cell (p := ⟨b, o + k, none⟩) hbl).trans HC1.out; have q2 : w2'.cell? ⟨w.heap.size, 0, none⟩ = some (.int .i64 off) ∧ w2'.cell? ⟨w.heap.size, 1, none⟩ = some (.slice a len cap) ∧ w2'.cell? ⟨b, o + k, none⟩ = some (.int .i64 v) := ⟨cell_of_row w2' _ 0 _ _ _ g2, cell_of_row w2' _ 1 _ _ _ g2, c2⟩; have hs2 := hB2.size; have HBX := Lib.hid hB2; clear hB2 g2 c2))
            | (go_at_call 17; ((with_reducible refine (HLK.out _ hw2).mono ?_); rintro e w2' ⟨rfl, hB2⟩; have g2 := (hB2.block w.heap.size (Array.getElem?_eq_some_iff.1 HZ2.out).1).trans HZ2.out; have c2 := (hB2.cell (p := ⟨b, o + k, none⟩) hbl2).trans HC2.out; have q2 : w2'.cell? ⟨w.heap.size, 0, none⟩ = some (.int .i64 off) ∧ w2'.cell? ⟨w.heap.size, 1, none⟩ = some (.slice a len cap) ∧ w2'.cell? ⟨b, o + k, none⟩ = some (.int .i64 v) := ⟨cell_of_row w2' _ 0 _ _ _ g2, cell_of_row w2' _ 1 _ _ _ g2, c2⟩; have gn := (hB2.block wr.heap.size (Array.getElem?_eq_some_iff.1 HN.out).1).trans HN.out; have nn0 : w2'.cell? ⟨wr.heap.size, 0, none⟩ = some (.int .i64 0) := cell_of_row w2' _ 0 _ _ _ gn; have f0 := frozen_of_row w2' wr.heap.size 0 _ _ gn; have nn1 : w2'.cell? ⟨wr.heap.size, 1, none⟩ = some (.int .i64 0) := cell_of_row w2' _ 1 _ _ _ gn; have f1 := frozen_of_row w2' wr.heap.size 1 _ _ gn; have nn2 : w2'.cell? ⟨wr.heap.size, 2, none⟩ = some (.int .i64 0) := cell_of_row w2' _ 2 _ _ _ gn; have f2 := frozen_of_row w2' wr.heap.size 2 _ _ gn; have nn3 : w2'.cell? ⟨wr.heap.size, 3, none⟩ = some (.int .i64 0) := cell_of_row w2' _ 3 _ _ _ gn; have f3 := frozen_of_row w2' wr.heap.size 3 _ _ gn; have nn4 : w2'.cell? ⟨wr.heap.size, 4, none⟩ = some (.int .i64 0) := cell_of_row w2' _ 4 _ _ _ gn; have f4 := frozen_of_row w2' wr.heap.size 4 _ _ gn; have nn5 : w2'.cell? ⟨wr.heap.size, 5, none⟩ = some (.int .i64 0) := cell_of_row w2' _ 5 _ _ _ gn; have f5 := frozen_of_row w2' wr.heap.size 5 _ _ gn; have pb := mom_putB y m d h mi s (Below.refl wr.heap.size w2') (Nat.le_refl wr.heap.size); have q4 : ((((((w2'.setCell ⟨wr.heap.size, 0, none⟩ (.int .i64 y)).setCell ⟨wr.heap.size, 1, none⟩ (.int .i64 m)).setCell ⟨wr.heap.size, 2, none⟩ (.int .i64 d)).setCell ⟨wr.heap.size, 3, none⟩ (.int .i64 h)).setCell ⟨wr.heap.size, 4, none⟩ (.int .i64 mi)).setCell ⟨wr.heap.size, 5, none⟩ (.int .i64 s)).cell? ⟨w.heap.size, 0, none⟩ = some (.int .i64 off) ∧ ((((((w2'.setCell ⟨wr.heap.size, 0, none⟩ (.int .i64 y)).setCell ⟨wr.heap.size, 1, none⟩ (.int .i64 m)).setCell ⟨wr.heap.size, 2, none⟩ (.int .i64 d)).setCell ⟨wr.heap.size, 3, none⟩ (.int .i64 h)).setCell ⟨wr.heap.size, 4, none⟩ (.int .i64 mi)).setCell ⟨wr.heap.size, 5, none⟩ (.int .i64 s)).cell? ⟨w.heap.size, 1, none⟩ = some (.slice a len cap) ∧ ((((((w2'.setCell ⟨wr.heap.size, 0, none⟩ (.int .i64 y)).setCell ⟨wr.heap.size, 1, none⟩ (.int .i64 m)).setCell ⟨wr.heap.size, 2, none⟩ (.int .i64 d)).setCell ⟨wr.heap.size, 3, none⟩ (.int .i64 h)).setCell ⟨wr.heap.size, 4, none⟩ (.int .i64 mi)).setCell ⟨wr.heap.size, 5, none⟩ (.int .i64 s)).cell? ⟨b, o + k, none⟩ = some (.int .i64 v) := ⟨(pb.cell (p := ⟨w.heap.size, 0, none⟩) hzl).trans q2.1, (pb.cell (p := ⟨w.heap.size, 1, none⟩) hzl).trans q2.2.1, (pb.cell (p := ⟨b, o + k, none⟩) hbl).trans q2.2.2⟩; have HGN := Lib.hid gn; clear gn pb; have hs2 := hB2.size; have HBX := Lib.hid hB2; clear hB2 g2 c2)))
        · obtain ⟨Wf, hWf⟩ : ∃ Wf, Wf = w2'.alloc (.cells #[.int .i64 y, .int .i64 m, .int .i64 d, .int .i64 h, .int .i64 mi, .int .i64 s] 44) := ⟨_, rfl⟩
          have hrow := heap_alloc_new w2' (.cells #[.int .i64 y, .int .i64 m, .int .i64 d, .int .i64 h, .int .i64 mi, .int .i64 s] 44)
          have hbx : Below wr.heap.size wr w2' := (Below.refl wr.heap.size wr).drew.trans (HBX.out)
          have hfB := hbx.alloc hbx.size (.cells #[.int .i64 y, .int .i64 m, .int .i64 d, .int .i64 h, .int .i64 mi, .int .i64 s] 44)
          rw [← hWf] at hrow hfB ⊢
          rename_i hHeld
          clear hHeld q1 q2 q3 hbx hWf HBX
          have hm := (hfB.block _ (Array.getElem?_eq_some_iff.1 HMR.out).1).trans HMR.out
          have m0 : Wf.cell? ⟨w.heap.size + 1, 0, none⟩ = some (.int .i64 y) := cell_of_row Wf _ 0 _ _ _ hm
          have p0 : Wf.cell? ⟨w2'.heap.size, 0, none⟩ = some (.int .i64 y) := cell_of_row Wf _ 0 _ _ _ hrow
          have m1 : Wf.cell? ⟨w.heap.size + 1, 1, none⟩ = some (.int .i64 m) := cell_of_row Wf _ 1 _ _ _ hm
          have p1 : Wf.cell? ⟨w2'.heap.size, 1, none⟩ = some (.int .i64 m) := cell_of_row Wf _ 1 _ _ _ hrow
          have m2 : Wf.cell? ⟨w.heap.size + 1, 2, none⟩ = some (.int .i64 d) := cell_of_row Wf _ 2 _ _ _ hm
          have p2 : Wf.cell? ⟨w2'.heap.size, 2, none⟩ = some (.int .i64 d) := cell_of_row Wf _ 2 _ _ _ hrow
          have m3 : Wf.cell? ⟨w.heap.size + 1, 3, none⟩ = some (.int .i64 h) := cell_of_row Wf _ 3 _ _ _ hm
          have p3 : Wf.cell? ⟨w2'.heap.size, 3, none⟩ = some (.int .i64 h) := cell_of_row Wf _ 3 _ _ _ hrow
          have m4 : Wf.cell? ⟨w.heap.size + 1, 4, none⟩ = some (.int .i64 mi) := cell_of_row Wf _ 4 _ _ _ hm
          have p4 : Wf.cell? ⟨w2'.heap.size, 4, none⟩ = some (.int .i64 mi) := cell_of_row Wf _ 4 _ _ _ hrow
          have m5 : Wf.cell? ⟨w.heap.size + 1, 5, none⟩ = some (.int .i64 s) := cell_of_row Wf _ 5 _ _ _ hm
          have p5 : Wf.cell? ⟨w2'.heap.size, 5, none⟩ = some (.int .i64 s) := cell_of_row Wf _ 5 _ _ _ hrow
          have ckf : Wf.cell? ⟨b, o + k, none⟩ = some (.int .i64 v) := (hfB.cell (p := ⟨b, o + k, none⟩) hbl).trans HC1.out
          have HRF := Lib.hid (HR.out.trans (hfB.mono HR.out.size))
          clear hfB hrow hm
          rcases Nat.eq_zero_or_pos k with rfl | hkp
          · have b0 : decide ((0 : Int) < ((0 : Nat) : Int)) = false := rfl
            go_wp2_with fail
            go_quiet (fail)
            go_wp2
            go_roundw
            case rel => exact ⟨0 + 1, by omega, by go_num, below_drewN HRF.out _⟩
            case measure => simp [intOf]; omega
          · obtain ⟨j, rfl⟩ : ∃ j, k = j + 1 := ⟨k - 1, by omega⟩
            obtain ⟨v0, hv0⟩ : ∃ v0, v0 = L2.getD j 0 := ⟨_, rfl⟩
            have hlt0 : v0 < v := by rw [hv0, HV.out]; exact HAS.out j (by rw [← HN2.out]; exact hlt)
            have cj : Wf.cell? ⟨b, o + j, none⟩ = some (.int .i64 v0) := by
              obtain ⟨b', o', e, hb', hc'⟩ := (at64_of_bys HBY.out) j (by rw [← HN2.out]; omega)
              cases e
              rw [hv0]
              exact (HRF.out.cell (p := ⟨b, o + j, none⟩) hb').trans hc'
            have b1 : decide (v ≤ v0) = false := decide_eq_false (by omega)
            clear hv0
            go_wp2_with fail
            go_quiet (fail)
            go_wp2
            go_roundw
            case rel => exact ⟨j + 1 + 1, by omega, by go_num, below_drewN HRF.out _⟩
            case measure => simp [intOf]; omega
        · obtain ⟨Wf, hWf⟩ : ∃ Wf, Wf = ((((((w2'.setCell ⟨wr.heap.size, 0, none⟩ (.int .i64 y)).setCell ⟨wr.heap.size, 1, none⟩ (.int .i64 m)).setCell ⟨wr.heap.size, 2, none⟩ (.int .i64 d)).setCell ⟨wr.heap.size, 3, none⟩ (.int .i64 h)).setCell ⟨wr.heap.size, 4, none⟩ (.int .i64 mi)).setCell ⟨wr.heap.size, 5, none⟩ (.int .i64 s)) := ⟨_, rfl⟩
          have hrow := mom_put y m d h mi s HGN.out
          have hbx : Below wr.heap.size wr w2' := ((Below.refl wr.heap.size wr).alloc (Nat.le_refl _) _).drew.trans (HBX.out.mono (Nat.le_trans (Nat.le_succ _) (Nat.le_of_eq (World.size_alloc wr (.cells #[.int .i64 0, .int .i64 0, .int .i64 0, .int .i64 0, .int .i64 0, .int .i64 0] 44)).symm)))
          have hfB := mom_putB y m d h mi s (Below.refl wr.heap.size w2') (Nat.le_refl wr.heap.size)
          have hfB := hbx.trans hfB
          rw [← hWf] at hrow hfB ⊢
          rename_i hHeld
          clear hHeld q1 q2 q3 q4 hbx hWf HGN HBX nn0 nn1 nn2 nn3 nn4 nn5 f0 f1 f2 f3 f4 f5
          have hm := (hfB.block _ (Array.getElem?_eq_some_iff.1 HMR.out).1).trans HMR.out
          have m0 : Wf.cell? ⟨w.heap.size + 1, 0, none⟩ = some (.int .i64 y) := cell_of_row Wf _ 0 _ _ _ hm
          have p0 : Wf.cell? ⟨wr.heap.size, 0, none⟩ = some (.int .i64 y) := cell_of_row Wf _ 0 _ _ _ hrow
          have m1 : Wf.cell? ⟨w.heap.size + 1, 1, none⟩ = some (.int .i64 m) := cell_of_row Wf _ 1 _ _ _ hm
          have p1 : Wf.cell? ⟨wr.heap.size, 1, none⟩ = some (.int .i64 m) := cell_of_row Wf _ 1 _ _ _ hrow
          have m2 : Wf.cell? ⟨w.heap.size + 1, 2, none⟩ = some (.int .i64 d) := cell_of_row Wf _ 2 _ _ _ hm
          have p2 : Wf.cell? ⟨wr.heap.size, 2, none⟩ = some (.int .i64 d) := cell_of_row Wf _ 2 _ _ _ hrow
          have m3 : Wf.cell? ⟨w.heap.size + 1, 3, none⟩ = some (.int .i64 h) := cell_of_row Wf _ 3 _ _ _ hm
          have p3 : Wf.cell? ⟨wr.heap.size, 3, none⟩ = some (.int .i64 h) := cell_of_row Wf _ 3 _ _ _ hrow
          have m4 : Wf.cell? ⟨w.heap.size + 1, 4, none⟩ = some (.int .i64 mi) := cell_of_row Wf _ 4 _ _ _ hm
          have p4 : Wf.cell? ⟨wr.heap.size, 4, none⟩ = some (.int .i64 mi) := cell_of_row Wf _ 4 _ _ _ hrow
          have m5 : Wf.cell? ⟨w.heap.size + 1, 5, none⟩ = some (.int .i64 s) := cell_of_row Wf _ 5 _ _ _ hm
          have p5 : Wf.cell? ⟨wr.heap.size, 5, none⟩ = some (.int .i64 s) := cell_of_row Wf _ 5 _ _ _ hrow
          have ckf : Wf.cell? ⟨b, o + k, none⟩ = some (.int .i64 v) := (hfB.cell (p := ⟨b, o + k, none⟩) hbl).trans HC1.out
          have HRF := Lib.hid (HR.out.trans (hfB.mono HR.out.size))
          clear hfB hrow hm
          rcases Nat.eq_zero_or_pos k with rfl | hkp
          · have b0 : decide ((0 : Int) < ((0 : Nat) : Int)) = false := rfl
            go_wp2_with fail
            go_quiet (fail)
            go_wp2
            go_roundw
            case rel => exact ⟨0 + 1, by omega, by go_num, below_drewN HRF.out _⟩
            case measure => simp [intOf]; omega
          · obtain ⟨j, rfl⟩ : ∃ j, k = j + 1 := ⟨k - 1, by omega⟩
            obtain ⟨v0, hv0⟩ : ∃ v0, v0 = L2.getD j 0 := ⟨_, rfl⟩
            have hlt0 : v0 < v := by rw [hv0, HV.out]; exact HAS.out j (by rw [← HN2.out]; exact hlt)
            have cj : Wf.cell? ⟨b, o + j, none⟩ = some (.int .i64 v0) := by
              obtain ⟨b', o', e, hb', hc'⟩ := (at64_of_bys HBY.out) j (by rw [← HN2.out]; omega)
              cases e
              rw [hv0]
              exact (HRF.out.cell (p := ⟨b, o + j, none⟩) hb').trans hc'
            have b1 : decide (v ≤ v0) = false := decide_eq_false (by omega)
            clear hv0
            go_wp2_with fail
            go_quiet (fail)
            go_wp2
            go_roundw
            case rel => exact ⟨j + 1 + 1, by omega, by go_num, below_drewN HRF.out _⟩
            case measure => simp [intOf]; omega
      · have hnl : ¬ ((k : Int) < n2) := by omega
        have HBF := Lib.hid (HB5.out.trans (hBr.mono HB5.out.size))
        clear hBr
        go_wp2
        go_ret
        exact ⟨rfl, HBF.out⟩
  · have HII := Lib.hid HI
    clear HI HB2
    have hG0 : (G == 0) = false := by rcases hG with rfl | rfl <;> rfl
    clear hG
    go_wp2_with fail
    refine (HII.out _ HBC.out).mono ?_
    rintro e X5 ⟨rfl, hB⟩
    have HB5 := Lib.hid (HBC.out.trans (hB.mono HBC.out.size))
    clear hB HBC HMC HZC z0 z1 m0 m1 m2 m3 m4 m5 HII
    go_wp2_with fail
    go_loop [17] (fun i => i = .int .i64 0) (fun _ => 0)
    case atStart => rfl
    case round =>
      obtain rfl := hrel
      go_wp2
      go_ret
      exact ⟨rfl, HB5.out⟩
end Go.Proofs.YtobnlcmamnoefaaDoor
