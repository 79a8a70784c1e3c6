/- The program's lineOf and Text. -/
import Derived.Test.YthlpigffjbhmoaaDoorEBld
import Derived.Test.YthlpigffjbhmoaaDoorEFmt
import Derived.Test.YthlpigffjbhmoaaDoorVText
import Derived.Test.YthlpigffjbhmoaaDoorVCheck
set_option linter.unusedVariables false
set_option linter.unusedSimpArgs false
namespace Go.Proofs.YthlpigffjbhmoaaDoor
open Go.RowKit Go.Shelf
abbrev strL (l : List UInt8) : Value := .string ⟨l.toArray⟩
theorem str_cat (a b : List UInt8) : (⟨a.toArray⟩ : ByteArray) ++ ⟨b.toArray⟩ = ⟨(a ++ b).toArray⟩ := by
  apply ByteArray.ext
  apply Array.toList_inj.1
  simp
theorem prices_succ {ps : List Int} {k : Nat} {p : Int} (h : ps[k]? = some p) : pricesL (ps.take (k + 1)) = pricesL (ps.take k) ++ (32 :: Lib.itoa p) := by
  unfold pricesL
  rw [List.take_add_one, h]
  simp
set_option maxRecDepth 100000 in
set_option maxHeartbeats 4000000 in
theorem lineOf_any (f : Int) (a : Option Addr) (m c : Nat) (ps : List Int) (hm : ps.length = m) (hv : VerMay ⟨f, ps⟩) (w : World) (hP : PrAt w.heap.size w a ps) (hT : Pow w) :
    Calls Tryd.prog 24 #[verV f a m c] w fun e w' => e = .returned (strL (lineL ⟨f, ps⟩)) ∧ Below w.heap.size w w' := by
  have hb0 := (Below.refl _ w).alloc (Nat.le_refl _) (.cells #[.int .i64 f, .slice a m c] 42)
  have HB0 := Lib.hid hb0
  have HZ0 := Lib.hid (heap_alloc_new w (.cells #[.int .i64 f, .slice a m c] 42))
  have HSZ : Hid ((w.alloc (.cells #[.int .i64 f, .slice a m c] 42)).heap.size = w.heap.size + 1) := Lib.hid (World.size_alloc _ _)
  have hf64 := (ver_64 hv).1
  have HF := Lib.hid (fun (W : World) (hB : Below w.heap.size w W) => format_any f hf64 W (hT.next hB (Nat.le_refl _)))
  have HG := Lib.hid (fun (p : Int) (hp : p ∈ ps) (W : World) (hB : Below w.heap.size w W) => format_any p ((ver_64 hv).2 p hp) W (hT.next hB (Nat.le_refl _)))
  have HP := Lib.hid hP
  have HM := Lib.hid hm
  have hfl := itoa_len12 hv.1.1 hv.1.2
  have hm16 : m ≤ 16 := by rw [← hm]; exact hv.2.1.2
  have HPL := Lib.hid (fun k => (show (pricesL (ps.take k)).length ≤ 208 by
    have h1 := prices_len (ps.take k) (fun p hp => hv.2.2 p (List.mem_of_mem_take hp))
    rw [List.length_take, hm] at h1
    omega))
  have HPP := Lib.hid (fun (p : Int) (hp : p ∈ ps) => (show (Lib.itoa p).length ≤ 12 by
    have := hv.2.2 p hp
    unfold PrMay at this
    exact itoa_len12 this.1 (by omega)))
  clear hb0 hP hm hT hv hf64
  go_enter Tryd.func24, Tryd.ntmps24
  go_wp2_with fail
  refine (HF.out _ HB0.out).mono ?_
  rintro e w1 ⟨rfl, hB1⟩
  have hz1 := (hB1.block w.heap.size (by rw [HSZ.out]; omega)).trans HZ0.out
  have z1 : w1.cell? ⟨w.heap.size, 1, none⟩ = some (.slice a m c) := cell_of_row _ _ 1 _ _ _ hz1
  have HB1 := Lib.hid (HB0.out.trans (hB1.mono HB0.out.size))
  clear hB1 hz1 HF HB0 HZ0
  go_wp2_with fail
  go_loopw [3, 12] (fun s i wr => ∃ (k : Nat) (T : List UInt8), k ≤ m ∧ i = .int .i64 k ∧ s = strL T ∧ T = Lib.itoa f ++ pricesL (ps.take k) ∧ Below w.heap.size w wr) (fun _ i _ => (m - intOf i).toNat)
  case atStart => exact ⟨0, _, Nat.zero_le _, rfl, rfl, by rw [List.take_zero]; simp [pricesL], HB1.out⟩
  case round =>
    obtain ⟨k, T, hk, rfl, rfl, hT, hb⟩ := hrel
    have hTL : T.length ≤ 220 := by rw [hT, List.length_append]; have := HPL.out k; omega
    have HT := Lib.hid hT
    have HB := Lib.hid hb
    clear hT hb z1 HB1
    by_cases hlt : k < m
    · have hlti : (k : Int) < m := by omega
      obtain ⟨p, hp⟩ : ∃ p, ps[k]? = some p := ⟨_, List.getElem?_eq_getElem (by rw [HM.out]; exact hlt)⟩
      obtain ⟨b, o, rfl, hbl, c0⟩ := HP.out.next HB.out (Nat.le_refl _) k p hp
      have hpl := HPP.out p (List.mem_of_getElem? hp)
      have HSU := Lib.hid (prices_succ hp)
      have HGP := Lib.hid (HG.out p (List.mem_of_getElem? hp) wr HB.out)
      obtain ⟨D, hD⟩ : ∃ D, Lib.itoa p = D := ⟨_, rfl⟩
      rw [hD] at HGP hpl HSU
      clear hp hD
      go_wp2_with fail
      refine HGP.out.mono ?_
      rintro e w2 ⟨rfl, hB2⟩
      have HB2 := Lib.hid (HB.out.trans (hB2.mono HB.out.size))
      clear hB2 HGP
      have hs1 : ((⟨#[32]⟩ : ByteArray) ++ ⟨D.toArray⟩) = ⟨(32 :: D).toArray⟩ := str_cat [32] D
      have hs2 : ((⟨T.toArray⟩ : ByteArray) ++ ⟨(32 :: D).toArray⟩) = ⟨(T ++ (32 :: D)).toArray⟩ := str_cat T (32 :: D)
      go_wp2
      go_roundw
      case rel => exact ⟨k + 1, T ++ (32 :: D), by omega, by go_num, by first | rfl | (show Value.string _ = Value.string _; rw [← hs2, ← hs1]), by rw [HSU.out, HT.out, List.append_assoc], HB2.out⟩
      case measure => first | (simp [intOf]; done) | (simp [intOf]; omega)
    · have hke : k = m := by omega
      subst hke
      have hnl : ¬ ((k : Int) < k) := by omega
      have hs3 : ((⟨T.toArray⟩ : ByteArray) ++ ⟨#[10]⟩) = ⟨(T ++ [10]).toArray⟩ := str_cat T [10]
      have HFIN := Lib.hid (show T ++ [10] = lineL ⟨f, ps⟩ by
        rw [HT.out, List.take_of_length_le (by rw [HM.out]; exact Nat.le_refl _)]; rfl)
      go_wp2
      go_ret
      refine ⟨?_, HB.out⟩
      rw [← HFIN.out]
      first | rfl | (show Ending.returned (Value.string _) = Ending.returned (Value.string _); rw [← hs3])
end Go.Proofs.YthlpigffjbhmoaaDoor
