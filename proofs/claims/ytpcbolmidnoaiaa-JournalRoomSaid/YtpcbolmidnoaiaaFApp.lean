/- appendFrame, Put. -/
import Derived.Test.YtpcbolmidnoaiaaFOps
set_option linter.unusedVariables false
set_option linter.unusedSimpArgs false
namespace Go.Proofs.Ytpcbolmidnoaiaa
open Go.RowKit Go.Shelf
theorem wrap8 (n : Int) : IntKind.u8.wrap n = n % 256 := IntKind.wrap_u8 n
theorem slice2 (g : Nat) (w : World) : (Instr.sliceAt 102 (.pointer (some ⟨g, 0, none⟩)) none none none).run Try.prog w = .ok (.slice (some ⟨g, 0, none⟩) 2 2) w := by
  have h := run_sliceAt_array_all (P := Try.prog) w 102 ⟨g, 0, none⟩ (by kernel_rfl)
  exact h.trans (by kernel_rfl)
/-- The row has grown by zs, in memory of the call's own from base on. -/
def Grew (base : Nat) (zs : List Int) (w : World) (e : Ending) (w' : World) : Prop := ∃ a c, e = .returned (.slice a zs.length c) ∧ Own8 base w' (.slice a zs.length c) zs ∧ Below base w w'
set_option maxRecDepth 100000 in
set_option maxHeartbeats 1000000 in
theorem appendFrame_any (base : Nat) (a : Option Addr) (n c : Nat) (ys : List Int) (b : Option Addr) (m d : Nat) (L : List Int) (w : World) (hO : Own8 base w (.slice a n c) ys) (hI : Bys8 base w (.slice b m d) L) (hbase : base ≤ w.heap.size) (hL : L.length ≤ 4096) (hy : ys.length ≤ 1000000000000) :
    Calls Try.prog 50 #[.slice a n c, .slice b m d] w (Grew base (ys ++ frameL L) w) := by
  obtain ⟨a1, c1, e1⟩ := hO.form
  cases e1
  obtain ⟨b1, d1, e2⟩ := hI.is
  cases e2
  obtain ⟨g, hg⟩ : ∃ g, w.heap.size = g := ⟨_, rfl⟩
  obtain ⟨n0, hn0⟩ : ∃ n0, ys.length = n0 := ⟨_, rfl⟩
  rw [hn0] at hO ⊢
  have hlen := frameL_len L
  have hb2 := len2_byt hL
  have hb4 := be4_byt (crcOf_lt L)
  have hS := crcOf_lt L
  have HF := Lib.hid (show frameL L = len2 L.length ++ be4 (crcOf L) ++ L from rfl)
  have HS := Lib.hid (fun (W : World) (h1 : Bys8 W.heap.size W (.slice (some ⟨g, 0, none⟩) 2 2) (len2 L.length)) (h2 : Bys8 W.heap.size W (.slice b L.length d) L) => show Calls Try.prog 65 #[.slice (some ⟨g, 0, none⟩) 2 2, .slice b L.length d] W fun e w' => e = .returned (.int .u32 (crcOf L : Nat)) ∧ Below W.heap.size W w' from
    sumOf_any _ _ _ _ _ _ _ _ W h1 h2 (by simp [len2]) (by omega))
  have J2 := Lib.hid (fun (W : World) => bys8_alloc (T := 102) W (len2 L.length) hb2 #[.int .u8 ((L.length / 256 : Nat) : Int), .int .u8 ((L.length % 256 : Nat) : Int)] rfl 2 2 rfl (0, 0))
  have J4 := Lib.hid (fun (W : World) => bys8_alloc (T := 5) W (be4 (crcOf L)) hb4 #[.int .u8 ((crcOf L / 16777216 : Nat) : Int), .int .u8 ((crcOf L / 65536 % 256 : Nat) : Int), .int .u8 ((crcOf L / 256 % 256 : Nat) : Int), .int .u8 ((crcOf L % 256 : Nat) : Int)] rfl 4 4 rfl (0, 0))
  have l2 : (len2 L.length).length = 2 := rfl
  have l4 : (be4 (crcOf L)).length = 4 := rfl
  generalize crcOf L = S at *
  have h1 : IntKind.u8.wrap ((S : Int) / 16777216) = ((S / 16777216 : Nat) : Int) := by rw [wrap8]; omega
  have h2 : IntKind.u8.wrap ((S : Int) / 65536) = ((S / 65536 % 256 : Nat) : Int) := by rw [wrap8]; omega
  have h3 : IntKind.u8.wrap ((S : Int) / 256) = ((S / 256 % 256 : Nat) : Int) := by rw [wrap8]; omega
  have h4 : IntKind.u8.wrap (S : Int) = ((S % 256 : Nat) : Int) := by rw [wrap8]; omega
  have h5 : IntKind.u8.wrap ((L.length : Int) / 256) = ((L.length / 256 : Nat) : Int) := by rw [wrap8]; omega
  have h6 : IntKind.u8.wrap (L.length : Int) = ((L.length % 256 : Nat) : Int) := by rw [wrap8]; omega
  generalize be4 S = B4 at *
  generalize len2 L.length = B2 at *
  generalize S / 16777216 = p at *
  generalize S / 65536 % 256 = q at *
  generalize S / 256 % 256 = r at *
  generalize S % 256 = t at *
  generalize L.length / 256 = u at *
  generalize L.length % 256 = v at *
  have sl := slice2 g
  have HX := Lib.hid (And.intro hO (And.intro hI hbase))
  have HL := Lib.hid (And.intro hL (And.intro hy (And.intro l2 (And.intro l4 (And.intro hlen hn0)))))
  have hB1 : Below w.heap.size w (w.alloc (.cells #[.int .u8 u, .int .u8 v] 102)) := (Below.refl _ _).alloc (Nat.le_refl _) _
  have HB1 := Lib.hid hB1
  have K2 := J2.out w
  rw [hg] at K2
  have HK2 := Lib.hid K2
  have hIg := Lib.hid (hI.mono hbase)
  clear hO hI hbase hL hy hS hb2 hb4 hlen l2 l4 K2 hB1 hn0
  go_enter Try.func50, Try.ntmps50
  go_wp2_with (first
    | (go_at_call 65; refine (HS.out _ HK2.out ((hIg.out.below HB1.out).mono HB1.out.size)).mono ?_; rintro e w2 ⟨rfl, hB2⟩
       have hB02 := HB1.out.trans (hB2.mono HB1.out.size)
       have hO2 := (HX.out.1.below hB02 (Nat.le_refl _)))
    | (at_builtin; refine bapp8N rfl (.tmp 19) (.tmp 20) rfl base _ ys rfl hO2 _ _ 2 2 B2 rfl (HK2.out.below hB2) (n0 + 2) (by have := HL.out; simp; omega) (by have := HL.out; omega) (Nat.le_trans HX.out.2.2 hB02.size) ?_; intro a3 c3 w3 hO3 hB3
       have hB03 := (hB02.mono HX.out.2.2).trans hB3
       have hO4 := hO3.below ((Below.refl _ w3).alloc (Nat.le_refl _) (.cells #[.int .u8 (p : Int), .int .u8 (q : Int), .int .u8 (r : Int), .int .u8 (t : Int)] 5)) (Nat.le_refl _)
       have hB04 := hB03.alloc (Nat.le_trans HX.out.2.2 (hB03.size)) (.cells #[.int .u8 (p : Int), .int .u8 (q : Int), .int .u8 (r : Int), .int .u8 (t : Int)] 5))
    | (at_builtin; refine bapp8N rfl (.tmp 22) (.tmp 34) rfl base _ (ys ++ B2) rfl hO4 _ _ 4 4 B4 rfl (J4.out w3) (n0 + 6) (by have := HL.out; simp; omega) (by have := HL.out; omega) (Nat.le_trans HX.out.2.2 hB04.size) ?_; intro a5 c5 w5 hO5 hB5
       have hB05 := hB04.trans hB5)
    | (at_builtin; refine bapp8N rfl (.tmp 36) (.tmp 37) rfl base _ (ys ++ B2 ++ B4) rfl hO5 base b _ d L rfl (HX.out.2.1.below hB05) (n0 + 6 + L.length) (by have := HL.out; simp; omega) (by have := HL.out; omega) (Nat.le_trans HX.out.2.2 hB05.size) ?_; intro a6 c6 w6 hO6 hB6)
    | fail)
  go_ret
  unfold Grew
  rw [show (ys ++ frameL L).length = n0 + 6 + L.length by have := HL.out; rw [List.length_append]; omega, HF.out, show ys ++ (B2 ++ B4 ++ L) = ys ++ B2 ++ B4 ++ L by simp]
  exact ⟨a6, c6, rfl, hO6, hB05.trans hB6⟩
end Go.Proofs.Ytpcbolmidnoaiaa
