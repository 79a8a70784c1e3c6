/- The document's line and Text. -/
import Derived.Test.YthlpigffjbhmoaaDoorRDig
set_option linter.unusedVariables false
set_option linter.unusedSimpArgs false
namespace Go.Proofs.YthlpigffjbhmoaaDoor
open Go.RowKit Go.Shelf
theorem rdig_int (n : Int) (h : 0 ≤ n) (h' : n < 253402300800) (w : World) : Calls Tryd.prog 41 #[.int .i64 n] w fun e w' => e = .returned (strL (Lib.itoa n)) ∧ Below w.heap.size w w' := by
  obtain ⟨u, rfl⟩ : ∃ u : Nat, n = (u : Int) := ⟨n.toNat, by omega⟩
  exact rdigits_any u (by omega) w
set_option maxRecDepth 100000 in
set_option maxHeartbeats 4000000 in
theorem rline_any (f : Int) (a : Option Addr) (m c : Nat) (ps : List Int) (hm : ps.length = m) (hv : VerMay ⟨f, ps⟩) (w : World) (hP : PrAt w.heap.size w a ps) :
    Calls Tryd.prog 27 #[verV f a m c] w fun e w' => e = .returned (strL (lineL ⟨f, ps⟩)) ∧ Below w.heap.size w w' := by
  have hb0 := (Below.refl _ w).alloc (Nat.le_refl _) (.cells #[.int .i64 f, .slice a m c] 42)
  have HB0 := Lib.hid hb0
  have HZ0 := Lib.hid (heap_alloc_new w (.cells #[.int .i64 f, .slice a m c] 42))
  have HSZ : Hid ((w.alloc (.cells #[.int .i64 f, .slice a m c] 42)).heap.size = w.heap.size + 1) := Lib.hid (World.size_alloc _ _)
  have HF := Lib.hid (fun (W : World) => rdig_int f hv.1.1 hv.1.2 W)
  have HG := Lib.hid (fun (p : Int) (hp : p ∈ ps) (W : World) => (show Calls Tryd.prog 41 #[.int .i64 p] W fun e w' => e = .returned (strL (Lib.itoa p)) ∧ Below W.heap.size W w' by
    have := hv.2.2 p hp
    unfold PrMay at this
    exact rdig_int p this.1 (by omega) W))
  have HP := Lib.hid hP
  have HM := Lib.hid hm
  have hfl := itoa_len12 hv.1.1 hv.1.2
  have hm16 : m ≤ 16 := by rw [← hm]; exact hv.2.1.2
  have HPL := Lib.hid (fun k => (show (pricesL (ps.take k)).length ≤ 208 by
    have h1 := prices_len (ps.take k) (fun p hp => hv.2.2 p (List.mem_of_mem_take hp))
    rw [List.length_take, hm] at h1
    omega))
  have HPP := Lib.hid (fun (p : Int) (hp : p ∈ ps) => (show (Lib.itoa p).length ≤ 12 by
    have := hv.2.2 p hp
    unfold PrMay at this
    exact itoa_len12 this.1 (by omega)))
  clear hb0 hP hm hv
  go_enter Tryd.func27, Tryd.ntmps27
  go_wp2_with fail
  refine (HF.out _).mono ?_
  rintro e w1 ⟨rfl, hB1⟩
  have HZ1 := Lib.hid ((hB1.block w.heap.size (by rw [HSZ.out]; omega)).trans HZ0.out)
  have HL1 := Lib.hid (show w.heap.size + 1 ≤ w1.heap.size by have := hB1.size; have := HSZ.out; omega)
  have HB1 := Lib.hid (HB0.out.trans (hB1.mono HB0.out.size))
  clear hB1 HF HB0 HZ0
  go_wp2_with fail
  go_loopw [3, 4] (fun s i wr => ∃ (k : Nat) (T : List UInt8), k ≤ m ∧ i = .int .i64 k ∧ s = strL T ∧ T = Lib.itoa f ++ pricesL (ps.take k) ∧ wr.heap[w.heap.size]? = some (.cells #[.int .i64 f, .slice a m c] 42 (0, 0)) ∧ Below w.heap.size w wr) (fun _ i _ => (m - intOf i).toNat)
  case atStart => exact ⟨0, _, Nat.zero_le _, rfl, rfl, by rw [List.take_zero]; simp [pricesL], HZ1.out, HB1.out⟩
  case round =>
    obtain ⟨k, T, hk, rfl, rfl, hT, hz, hb⟩ := hrel
    have hTL : T.length ≤ 220 := by rw [hT, List.length_append]; have := HPL.out k; omega
    have z1 : wr.cell? ⟨w.heap.size, 1, none⟩ = some (.slice a m c) := cell_of_row _ _ 1 _ _ _ hz
    have HT := Lib.hid hT
    have HB := Lib.hid hb
    have HZ := Lib.hid hz
    clear hT hb HB1 hz HZ1
    by_cases hlt : k < m
    · have hlti : (k : Int) < m := by omega
      obtain ⟨p, hp⟩ : ∃ p, ps[k]? = some p := ⟨_, List.getElem?_eq_getElem (by rw [HM.out]; exact hlt)⟩
      obtain ⟨b, o, rfl, hbl, c0⟩ := HP.out.next HB.out (Nat.le_refl _) k p hp
      have hpl := HPP.out p (List.mem_of_getElem? hp)
      have HSU := Lib.hid (prices_succ hp)
      have HGP := Lib.hid (HG.out p (List.mem_of_getElem? hp) wr)
      obtain ⟨D, hD⟩ : ∃ D, Lib.itoa p = D := ⟨_, rfl⟩
      rw [hD] at HGP hpl HSU
      clear hp hD
      have hs1 : ((⟨T.toArray⟩ : ByteArray) ++ ⟨#[32]⟩) = ⟨(T ++ [32]).toArray⟩ := str_cat T [32]
      have hs2 : ((⟨(T ++ [32]).toArray⟩ : ByteArray) ++ ⟨D.toArray⟩) = ⟨((T ++ [32]) ++ D).toArray⟩ := str_cat (T ++ [32]) D
      have HS12 := Lib.hid (show ((⟨T.toArray⟩ : ByteArray) ++ ⟨#[32]⟩) ++ ⟨D.toArray⟩ = ⟨((T ++ [32]) ++ D).toArray⟩ by rw [hs1, hs2])
      clear hs1 hs2
      go_wp2_with fail
      refine HGP.out.mono ?_
      rintro e w2 ⟨rfl, hB2⟩
      have HZ2 := Lib.hid ((hB2.block w.heap.size (by have := (Array.getElem?_eq_some_iff.1 HZ.out).1; omega)).trans HZ.out)
      have HB2 := Lib.hid (HB.out.trans (hB2.mono HB.out.size))
      clear hB2 HGP
      go_wp2
      go_roundw
      case rel => exact ⟨k + 1, (T ++ [32]) ++ D, by omega, by go_num, congrArg Value.string HS12.out, by rw [HSU.out, HT.out]; simp, HZ2.out, HB2.out⟩
      case measure => first | (simp [intOf]; done) | (simp [intOf]; omega)
    · have hke : k = m := by omega
      subst hke
      have hnl : ¬ ((k : Int) < k) := by omega
      have hs3 : ((⟨T.toArray⟩ : ByteArray) ++ ⟨#[10]⟩) = ⟨(T ++ [10]).toArray⟩ := str_cat T [10]
      have HFIN := Lib.hid (show T ++ [10] = lineL ⟨f, ps⟩ by
        rw [HT.out, List.take_of_length_le (by rw [HM.out]; exact Nat.le_refl _)]; rfl)
      go_wp2
      go_ret
      refine ⟨?_, HB.out⟩
      rw [← HFIN.out]
      first | rfl | (show Ending.returned (Value.string _) = Ending.returned (Value.string _); rw [← hs3])
set_option maxRecDepth 100000 in
set_option maxHeartbeats 4000000 in
theorem rText_any (a : Option Addr) (n cap : Nat) (l : List Ve) (hn : l.length = n) (w : World) (hA : VesAt w.heap.size w a l) (hnx : n ≤ cap ∧ cap ≤ maxLen) :
    Calls Tryd.prog 10 #[.slice a n cap] w fun e w' => e = .returned (if TabMay l then .tuple #[strL (textL l), .int .i64 0] else .tuple #[.string ⟨#[]⟩, .int .i64 100]) ∧ Below w.heap.size w w' := by
  have hck := rCheck_any a n cap l hn w hA hnx
  by_cases ht : TabMay l
  case neg =>
    rw [if_neg ht]
    rw [tErr_no ht] at hck
    have HCK := Lib.hid hck
    clear hck hA hn ht
    go_enter Tryd.func10, Tryd.ntmps10
    go_wp2_with fail
    refine HCK.out.mono ?_
    rintro e w1 ⟨rfl, hB1⟩
    have HB1 := Lib.hid hB1
    clear hB1
    go_wp2
    go_ret2
    exact ⟨rfl, HB1.out⟩
  rw [if_pos ht]
  rw [tErr_yes ht] at hck
  have HCK := Lib.hid hck
  have HA := Lib.hid hA
  have HN := Lib.hid hn
  have HTB := Lib.hid ht
  have hn2 : n ≤ 200 := by rw [← hn]; exact tab_len ht
  have HTL := Lib.hid (fun k => (show (textL (l.take k)).length ≤ 44200 by
    have h1 := text_len (l.take k) (fun v hv => tab_ver ht (List.mem_of_mem_take hv))
    rw [List.length_take, hn] at h1
    omega))
  clear hck hA hn ht
  go_enter Tryd.func10, Tryd.ntmps10
  go_wp2_with fail
  refine HCK.out.mono ?_
  rintro e w1 ⟨rfl, hB1⟩
  have HB1 := Lib.hid hB1
  clear hB1 HCK
  go_wp2_with fail
  go_loopw [4, 5] (fun s i wr => ∃ (k : Nat) (T : List UInt8), k ≤ n ∧ i = .int .i64 k ∧ s = strL T ∧ T = textL (l.take k) ∧ Below w.heap.size w wr) (fun _ i _ => (n - intOf i).toNat)
  case atStart => exact ⟨0, [], Nat.zero_le _, rfl, rfl, by rw [List.take_zero]; rfl, HB1.out⟩
  case round =>
    obtain ⟨k, T, hk, rfl, rfl, hT, hb⟩ := hrel
    have hTL : T.length ≤ 44200 := by rw [hT]; exact HTL.out k
    have HT := Lib.hid hT
    have HB := Lib.hid hb
    clear hT hb HB1
    by_cases hlt : k < n
    · have hlti : (k : Int) < n := by omega
      obtain ⟨⟨f, ps⟩, hv⟩ : ∃ v, l[k]? = some v := ⟨_, List.getElem?_eq_getElem (by rw [HN.out]; exact hlt)⟩
      obtain ⟨bb, o, pa, pc, rfl, hbl, c0, c1, hle, hup⟩ := HA.out.next HB.out (Nat.le_refl _) k _ hv
      obtain ⟨m, hm⟩ : ∃ m, ps.length = m := ⟨_, rfl⟩
      simp only at c0 c1 hle hup
      rw [hm] at c1 hle
      have hvm := tab_ver HTB.out (List.mem_of_getElem? hv)
      have hll := line_len hvm
      have HSU := Lib.hid (text_succ hv)
      have HLO := Lib.hid (rline_any f pa m pc ps hm hvm wr (hup.mono HB.out.size))
      obtain ⟨D, hD⟩ : ∃ D, lineL ⟨f, ps⟩ = D := ⟨_, rfl⟩
      rw [hD] at HLO hll HSU
      clear hv hm hvm hup hD
      go_wp2_with fail
      refine HLO.out.mono ?_
      rintro e w2 ⟨rfl, hB2⟩
      have HB2 := Lib.hid (HB.out.trans (hB2.mono HB.out.size))
      clear hB2 HLO
      have hs1 : ((⟨T.toArray⟩ : ByteArray) ++ ⟨D.toArray⟩) = ⟨(T ++ D).toArray⟩ := str_cat T D
      go_wp2
      go_roundw
      case rel => exact ⟨k + 1, T ++ D, by omega, by go_num, by first | rfl | (show Value.string _ = Value.string _; rw [← hs1]), by rw [HSU.out, HT.out], HB2.out⟩
      case measure => first | (simp [intOf]; done) | (simp [intOf]; omega)
    · have hke : k = n := by omega
      subst hke
      have hnl : ¬ ((k : Int) < k) := by omega
      have HFIN := Lib.hid (show T = textL l by rw [HT.out, List.take_of_length_le (by rw [HN.out]; exact Nat.le_refl _)])
      go_wp2
      go_ret2
      rw [← HFIN.out]
      exact ⟨rfl, HB.out⟩
end Go.Proofs.YthlpigffjbhmoaaDoor
