/- TariffTells, walked. -/
import Derived.Test.YtbffmobjiiicoaaGreatDoorTTellsM
import Derived.LoopTactic
set_option linter.unusedVariables false
set_option linter.unusedSimpArgs false
namespace Go.Proofs.YtbffmobjiiicoaaGreatDoor
open Go.RowKit Go.Shelf
set_option maxRecDepth 20000 in
set_option maxHeartbeats 8000000 in
theorem tellsW (x : Ta) (a : Option Addr) (len cap : Nat) (z : List Int) (w : World) (hT : Tabs w) (w0 : TarAt w.heap.size w x ∧ TarCap x) (w1 : IsRow .i64 w a len cap z) :
    Calls Tryz.prog 3 #[tarV x, .slice a len cap] w fun e w' => e = .returned (.bool true) ∧ Below w.heap.size w w' := by
  obtain ⟨hA, hC⟩ := w0
  have hB0 := (Below.refl w.heap.size w).alloc (Nat.le_refl _) (.cells (tarC x) 35)
  have S0 := Lib.hid (show Bx w (w.alloc (.cells (tarC x) 35)) x from ⟨heap_alloc_new w _, hA.up hB0, hT.next hB0, hB0⟩)
  have HC := Lib.hid hC
  have HR := Lib.hid (fun k (hk : k < len) => row64_cell w1 hk)
  have h20 : decide ((20 : Int) < (len : Int)) = true ∨ decide ((20 : Int) < (len : Int)) = false ∧ Hid (len ≤ 20) := by
    by_cases h : len ≤ 20
    · exact .inr ⟨by simp; omega, Lib.hid h⟩
    · exact .inl (by simp; omega)
  clear hA hC hB0 hT w1
  go_enter Tryz.func3, Tryz.ntmps3
  obtain ⟨c0, c1, c2, c3, c4, c5, c6⟩ := S0.out.b.cells
  go_wp2_with fail
  refine (great_any x _ S0.out.a HC.out).mono ?_
  rintro e X1 ⟨rfl | ⟨rfl, hsm⟩, hB⟩
  · have S1 := Lib.hid (S0.out.next hB)
    clear hB
    go_wp2
    go_ret
    exact ⟨rfl, S1.out.o⟩
  have HL := Lib.hid (HC.out.len (by have := hsm.1.1; omega))
  have HSM := Lib.hid hsm
  have S1 := Lib.hid (S0.out.next hB)
  clear hB hsm c0 c1 c2 c3 c4 c5 c6
  obtain ⟨c0, c1, c2, c3, c4, c5, c6⟩ := S1.out.b.cells
  rcases h20 with h20 | ⟨h20, HLEN⟩
  · go_wp2
    go_ret
    exact ⟨rfl, S1.out.o⟩
  go_wp2_with fail
  refine (tcheck_any x X1 S1.out.a HL.out S1.out.t).mono ?_
  rintro e X2 ⟨rfl, hB⟩
  have S2 := Lib.hid (S1.out.next hB)
  clear hB c0 c1 c2 c3 c4 c5 c6
  obtain ⟨c0, c1, c2, c3, c4, c5, c6⟩ := S2.out.b.cells
  go_wp2_with fail
  refine (rtcheck_any x X2 S2.out.a HL.out HSM.out).mono ?_
  rintro e X3 ⟨rfl, hB⟩
  have S3 := Lib.hid (S2.out.next hB)
  clear hB c0 c1 c2 c3 c4 c5 c6
  obtain ⟨E, hE⟩ : ∃ E, E = tarE x := ⟨_, rfl⟩
  rw [← hE]
  have HE := Lib.hid hE
  have eE : (E != E) = false := by simp
  clear hE S0 S1 S2 HC
  go_wp2_with fail
  refine wp_loop (fun a' w' => ∃ l : List Value, a' = ⟨l.toArray, []⟩ ∧ l.length = 165 ∧ (l.getD 0 undef = tarV x ∧ l.getD 1 undef = .slice a len cap ∧ l.getD 2 undef = .pointer (some ⟨w.heap.size, 0, none⟩) ∧ l.getD 3 undef = undef ∧ l.getD 5 undef = .int .i64 E ∧ l.getD 6 undef = .int .i64 E ∧ l.getD 45 undef = .int .i64 (len : Int)) ∧ ∃ i : Value, l.getD 46 undef = i ∧ (∃ k : Nat, k ≤ len ∧ i = .int .i64 k ∧ Bx w w' x)) (fun a' w' => len - (intOf (a'.tmps.getD 46 undef)).toNat) ?_ ?_
  · refine ⟨_, rfl, rfl, ⟨rfl, rfl, rfl, rfl, rfl, rfl, rfl⟩, _, rfl, ?_⟩
    exact ⟨0, Nat.zero_le _, rfl, S3.out⟩
  · rintro _ wr ⟨l, rfl, hl, ⟨g0, g1, g2, g3, g5, g6, g45⟩, i, v46, k, hk, hki, hS⟩
    obtain ⟨u, hu, hv⟩ : ∃ u : Nat → Value, (∀ i, l.getD i undef = u i) ∧ l = (List.range 165).map u := ⟨_, fun _ => rfl, frame_of hl⟩
    rw [hu] at g0 g1 g2 g3 g5 g6 g45 v46
    rw [hv, show (List.range 165).map u = [u 0, u 1, u 2, u 3, u 4, u 5, u 6, u 7, u 8, u 9, u 10, u 11, u 12, u 13, u 14, u 15, u 16, u 17, u 18, u 19, u 20, u 21, u 22, u 23, u 24, u 25, u 26, u 27, u 28, u 29, u 30, u 31, u 32, u 33, u 34, u 35, u 36, u 37, u 38, u 39, u 40, u 41, u 42, u 43, u 44, u 45, u 46, u 47, u 48, u 49, u 50, u 51, u 52, u 53, u 54, u 55, u 56, u 57, u 58, u 59, u 60, u 61, u 62, u 63, u 64, u 65, u 66, u 67, u 68, u 69, u 70, u 71, u 72, u 73, u 74, u 75, u 76, u 77, u 78, u 79, u 80, u 81, u 82, u 83, u 84, u 85, u 86, u 87, u 88, u 89, u 90, u 91, u 92, u 93, u 94, u 95, u 96, u 97, u 98, u 99, u 100, u 101, u 102, u 103, u 104, u 105, u 106, u 107, u 108, u 109, u 110, u 111, u 112, u 113, u 114, u 115, u 116, u 117, u 118, u 119, u 120, u 121, u 122, u 123, u 124, u 125, u 126, u 127, u 128, u 129, u 130, u 131, u 132, u 133, u 134, u 135, u 136, u 137, u 138, u 139, u 140, u 141, u 142, u 143, u 144, u 145, u 146, u 147, u 148, u 149, u 150, u 151, u 152, u 153, u 154, u 155, u 156, u 157, u 158, u 159, u 160, u 161, u 162, u 163, u 164] from rfl]
    rw [g0, g1, g2, g3, g5, g6, g45, v46]
    clear hu hv hl g0 g1 g2 g3 g5 g6 g45 v46 l
    rw [hki]
    clear hki i S3
    by_cases hlt : k < len
    case neg =>
      have hd2 : decide (k < len) = false := by simp; omega
      have HB := Lib.hid hS.o
      clear hS hk hlt
      go_wp2
      go_ret
      exact ⟨rfl, HB.out⟩
    have hd2 : decide ((k : Int) < (len : Int)) = true := by simp; omega
    obtain ⟨rb, ro, t, rfl, hrb, ht, hct⟩ := HR.out k hlt
    have i1 : (k : Int) < len := by omega
    have wk : wrap64 ((k : Int) + 1) = ((k + 1 : Nat) : Int) := by have := HLEN.out; unfold wrap64; omega
    have HT64 := Lib.hid ht
    have HCT := Lib.hid (fun W (hW : Below w.heap.size w W) => (hW.cell (p := ⟨rb, ro + k, none⟩) hrb).trans hct)
    have S4 := Lib.hid hS
    have HK := Lib.hid hlt
    have hmx : Tryz.prog.follows .mixedOrders = true := by kernel_rfl
    clear hS hk hlt hrb ht hct
    obtain ⟨c0, c1, c2, c3, c4, c5, c6⟩ := S4.out.b.cells
    go_wp2_with fail
    clear c0 c1 c2 c3 c4 c5 c6
    have SD := Lib.hid S4.out.drew
    have q1 : wr.drew.cell? ⟨w.heap.size, 0, none⟩ = some (.int .i64 x.off) ∧ wr.drew.cell? ⟨w.heap.size, 1, none⟩ = some (.slice x.za x.zl x.zc) ∧ wr.drew.cell? ⟨w.heap.size, 2, none⟩ = some (.slice x.ha x.hl x.hc) ∧ wr.drew.cell? ⟨w.heap.size, 3, none⟩ = some (.slice x.sa x.sl x.sc) ∧ wr.drew.cell? ⟨w.heap.size, 4, none⟩ = some (.slice x.pa x.pl x.pc) ∧ wr.drew.cell? ⟨w.heap.size, 5, none⟩ = some (.slice x.ra x.rl x.rc) ∧ wr.drew.cell? ⟨w.heap.size, 6, none⟩ = some (.slice x.va x.l.length x.vc) ∧ wr.drew.cell? ⟨rb, ro + k, none⟩ = some (.int .i64 t) := ⟨SD.out.b.cells.1, SD.out.b.cells.2.1, SD.out.b.cells.2.2.1, SD.out.b.cells.2.2.2.1, SD.out.b.cells.2.2.2.2.1, SD.out.b.cells.2.2.2.2.2.1, SD.out.b.cells.2.2.2.2.2.2, HCT.out _ SD.out.o⟩
    have HCC := Lib.hid (locA x t wr.drew SD.out.a HL.out SD.out.t HT64.out)
    go_region_held3 (fun w' => w'.cell? ⟨w.heap.size, 0, none⟩ = some (.int .i64 x.off) ∧ w'.cell? ⟨w.heap.size, 1, none⟩ = some (.slice x.za x.zl x.zc) ∧ w'.cell? ⟨w.heap.size, 2, none⟩ = some (.slice x.ha x.hl x.hc) ∧ w'.cell? ⟨w.heap.size, 3, none⟩ = some (.slice x.sa x.sl x.sc) ∧ w'.cell? ⟨w.heap.size, 4, none⟩ = some (.slice x.pa x.pl x.pc) ∧ w'.cell? ⟨w.heap.size, 5, none⟩ = some (.slice x.ra x.rl x.rc) ∧ w'.cell? ⟨w.heap.size, 6, none⟩ = some (.slice x.va x.l.length x.vc) ∧ w'.cell? ⟨rb, ro + k, none⟩ = some (.int .i64 t))
      (first | (with_reducible exact q1) | (with_reducible exact q2) | go_keep)
      (first
        | (go_at_call 7; ((with_reducible refine HCC.out.mono ?_); rintro e X5 ⟨⟨s, kd, mi, g, hr, rfl⟩, hB⟩; have S5 := Lib.hid (SD.out.next hB); have q2 : X5.cell? ⟨w.heap.size, 0, none⟩ = some (.int .i64 x.off) ∧ X5.cell? ⟨w.heap.size, 1, none⟩ = some (.slice x.za x.zl x.zc) ∧ X5.cell? ⟨w.heap.size, 2, none⟩ = some (.slice x.ha x.hl x.hc) ∧ X5.cell? ⟨w.heap.size, 3, none⟩ = some (.slice x.sa x.sl x.sc) ∧ X5.cell? ⟨w.heap.size, 4, none⟩ = some (.slice x.pa x.pl x.pc) ∧ X5.cell? ⟨w.heap.size, 5, none⟩ = some (.slice x.ra x.rl x.rc) ∧ X5.cell? ⟨w.heap.size, 6, none⟩ = some (.slice x.va x.l.length x.vc) ∧ X5.cell? ⟨rb, ro + k, none⟩ = some (.int .i64 t) := ⟨S5.out.b.cells.1, S5.out.b.cells.2.1, S5.out.b.cells.2.2.1, S5.out.b.cells.2.2.2.1, S5.out.b.cells.2.2.2.2.1, S5.out.b.cells.2.2.2.2.2.1, S5.out.b.cells.2.2.2.2.2.2, HCT.out _ S5.out.o⟩; have HLR := Lib.hid hr; clear hr; clear hB)))
    rename_i hHeld
    clear hHeld q1 q2 SD HCC S4
    go_wp2_with fail
    have SD := Lib.hid S5.out.drew
    have q1 : X5.drew.cell? ⟨w.heap.size, 0, none⟩ = some (.int .i64 x.off) ∧ X5.drew.cell? ⟨w.heap.size, 1, none⟩ = some (.slice x.za x.zl x.zc) ∧ X5.drew.cell? ⟨w.heap.size, 2, none⟩ = some (.slice x.ha x.hl x.hc) ∧ X5.drew.cell? ⟨w.heap.size, 3, none⟩ = some (.slice x.sa x.sl x.sc) ∧ X5.drew.cell? ⟨w.heap.size, 4, none⟩ = some (.slice x.pa x.pl x.pc) ∧ X5.drew.cell? ⟨w.heap.size, 5, none⟩ = some (.slice x.ra x.rl x.rc) ∧ X5.drew.cell? ⟨w.heap.size, 6, none⟩ = some (.slice x.va x.l.length x.vc) ∧ X5.drew.cell? ⟨rb, ro + k, none⟩ = some (.int .i64 t) := ⟨SD.out.b.cells.1, SD.out.b.cells.2.1, SD.out.b.cells.2.2.1, SD.out.b.cells.2.2.2.1, SD.out.b.cells.2.2.2.2.1, SD.out.b.cells.2.2.2.2.2.1, SD.out.b.cells.2.2.2.2.2.2, HCT.out _ SD.out.o⟩
    have HCC := Lib.hid (atA x t X5.drew SD.out.a HL.out SD.out.t HT64.out)
    go_region_held3 (fun w' => w'.cell? ⟨w.heap.size, 0, none⟩ = some (.int .i64 x.off) ∧ w'.cell? ⟨w.heap.size, 1, none⟩ = some (.slice x.za x.zl x.zc) ∧ w'.cell? ⟨w.heap.size, 2, none⟩ = some (.slice x.ha x.hl x.hc) ∧ w'.cell? ⟨w.heap.size, 3, none⟩ = some (.slice x.sa x.sl x.sc) ∧ w'.cell? ⟨w.heap.size, 4, none⟩ = some (.slice x.pa x.pl x.pc) ∧ w'.cell? ⟨w.heap.size, 5, none⟩ = some (.slice x.ra x.rl x.rc) ∧ w'.cell? ⟨w.heap.size, 6, none⟩ = some (.slice x.va x.l.length x.vc) ∧ w'.cell? ⟨rb, ro + k, none⟩ = some (.int .i64 t))
      (first | (with_reducible exact q1) | (with_reducible exact q2) | go_keep)
      (first
        | (go_at_call 8; ((with_reducible refine HCC.out.mono ?_); rintro e X6 ⟨⟨b, pr, h, hr, rfl⟩, hB⟩; have S6 := Lib.hid (SD.out.next hB); have q2 : X6.cell? ⟨w.heap.size, 0, none⟩ = some (.int .i64 x.off) ∧ X6.cell? ⟨w.heap.size, 1, none⟩ = some (.slice x.za x.zl x.zc) ∧ X6.cell? ⟨w.heap.size, 2, none⟩ = some (.slice x.ha x.hl x.hc) ∧ X6.cell? ⟨w.heap.size, 3, none⟩ = some (.slice x.sa x.sl x.sc) ∧ X6.cell? ⟨w.heap.size, 4, none⟩ = some (.slice x.pa x.pl x.pc) ∧ X6.cell? ⟨w.heap.size, 5, none⟩ = some (.slice x.ra x.rl x.rc) ∧ X6.cell? ⟨w.heap.size, 6, none⟩ = some (.slice x.va x.l.length x.vc) ∧ X6.cell? ⟨rb, ro + k, none⟩ = some (.int .i64 t) := ⟨S6.out.b.cells.1, S6.out.b.cells.2.1, S6.out.b.cells.2.2.1, S6.out.b.cells.2.2.2.1, S6.out.b.cells.2.2.2.2.1, S6.out.b.cells.2.2.2.2.2.1, S6.out.b.cells.2.2.2.2.2.2, HCT.out _ S6.out.o⟩; have HAR := Lib.hid hr; clear hr; clear hB)))
    rename_i hHeld
    clear hHeld q1 q2 SD HCC S5
    by_cases hE0 : E = 0
    case neg =>
      have e0 : (E != 0) = true := by simpa using hE0
      have hE1 : tarE x ≠ 0 := by rw [← HE.out]; exact hE0
      obtain ⟨rfl, rfl, rfl, rfl⟩ : s = 0 ∧ kd = 0 ∧ mi = 0 ∧ g = E := by
        rcases HLR.out with ⟨_, h1, h2, h3, h4⟩ | ⟨h1, _⟩
        · exact ⟨h1, h2, h3, by rw [h4, HE.out]⟩
        · exact absurd h1 hE1
      obtain ⟨rfl, rfl, rfl⟩ : b = 0 ∧ pr = 0 ∧ h = g := by
        rcases HAR.out with ⟨_, h1, h2, h3⟩ | ⟨h1, _⟩
        · exact ⟨h1, h2, by rw [h3, HE.out]⟩
        · exact absurd h1 hE1
      clear hE0 hE1 HLR HAR
      go_wp2
      refine ⟨⟨_, rfl, rfl, ⟨rfl, rfl, rfl, rfl, rfl, rfl, rfl⟩, _, rfl, ?rel⟩, ?measure⟩
      case rel => exact ⟨k + 1, HK.out, by first | rfl | (show Value.int .i64 (wrap64 ((k : Int) + 1)) = _; rw [wk]), S6.out⟩
      case measure =>
        have hk2 := HK.out
        first
          | (show len - (intOf (.int .i64 (wrap64 ((k : Int) + 1)))).toNat < len - (intOf (.int .i64 (k : Int))).toNat; rw [wk])
          | (show len - (intOf (.int .i64 ((k + 1 : Nat) : Int))).toNat < len - (intOf (.int .i64 (k : Int))).toNat)
          | (show len - (intOf (.int .i64 ((k : Int) + 1))).toNat < len - (intOf (.int .i64 (k : Int))).toNat)
        first
          | (show len - ((k + 1 : Nat) : Int).toNat < len - ((k : Nat) : Int).toNat; omega)
          | (show len - ((k : Int) + 1).toNat < len - ((k : Nat) : Int).toNat; omega)
    subst hE0
    have HE0 := Lib.hid (show tarE x = 0 from HE.out.symm)
    go_wp2_with fail
    have SD := Lib.hid S6.out.drew
    have q1 : X6.drew.cell? ⟨w.heap.size, 0, none⟩ = some (.int .i64 x.off) ∧ X6.drew.cell? ⟨w.heap.size, 1, none⟩ = some (.slice x.za x.zl x.zc) ∧ X6.drew.cell? ⟨w.heap.size, 2, none⟩ = some (.slice x.ha x.hl x.hc) ∧ X6.drew.cell? ⟨w.heap.size, 3, none⟩ = some (.slice x.sa x.sl x.sc) ∧ X6.drew.cell? ⟨w.heap.size, 4, none⟩ = some (.slice x.pa x.pl x.pc) ∧ X6.drew.cell? ⟨w.heap.size, 5, none⟩ = some (.slice x.ra x.rl x.rc) ∧ X6.drew.cell? ⟨w.heap.size, 6, none⟩ = some (.slice x.va x.l.length x.vc) ∧ X6.drew.cell? ⟨rb, ro + k, none⟩ = some (.int .i64 t) := ⟨SD.out.b.cells.1, SD.out.b.cells.2.1, SD.out.b.cells.2.2.1, SD.out.b.cells.2.2.2.1, SD.out.b.cells.2.2.2.2.1, SD.out.b.cells.2.2.2.2.2.1, SD.out.b.cells.2.2.2.2.2.2, HCT.out _ SD.out.o⟩
    have HCC := Lib.hid (rlocA x t X6.drew SD.out.a HE0.out)
    go_region_held3 (fun w' => w'.cell? ⟨w.heap.size, 0, none⟩ = some (.int .i64 x.off) ∧ w'.cell? ⟨w.heap.size, 1, none⟩ = some (.slice x.za x.zl x.zc) ∧ w'.cell? ⟨w.heap.size, 2, none⟩ = some (.slice x.ha x.hl x.hc) ∧ w'.cell? ⟨w.heap.size, 3, none⟩ = some (.slice x.sa x.sl x.sc) ∧ w'.cell? ⟨w.heap.size, 4, none⟩ = some (.slice x.pa x.pl x.pc) ∧ w'.cell? ⟨w.heap.size, 5, none⟩ = some (.slice x.ra x.rl x.rc) ∧ w'.cell? ⟨w.heap.size, 6, none⟩ = some (.slice x.va x.l.length x.vc) ∧ w'.cell? ⟨rb, ro + k, none⟩ = some (.int .i64 t))
      (first | (with_reducible exact q1) | (with_reducible exact q2) | go_keep)
      (first
        | (go_at_call 9; ((with_reducible refine HCC.out.mono ?_); rintro e X7 ⟨⟨s', kd', mi', g', hr, rfl⟩, hB⟩; have S7 := Lib.hid (SD.out.next hB); have q2 : X7.cell? ⟨w.heap.size, 0, none⟩ = some (.int .i64 x.off) ∧ X7.cell? ⟨w.heap.size, 1, none⟩ = some (.slice x.za x.zl x.zc) ∧ X7.cell? ⟨w.heap.size, 2, none⟩ = some (.slice x.ha x.hl x.hc) ∧ X7.cell? ⟨w.heap.size, 3, none⟩ = some (.slice x.sa x.sl x.sc) ∧ X7.cell? ⟨w.heap.size, 4, none⟩ = some (.slice x.pa x.pl x.pc) ∧ X7.cell? ⟨w.heap.size, 5, none⟩ = some (.slice x.ra x.rl x.rc) ∧ X7.cell? ⟨w.heap.size, 6, none⟩ = some (.slice x.va x.l.length x.vc) ∧ X7.cell? ⟨rb, ro + k, none⟩ = some (.int .i64 t) := ⟨S7.out.b.cells.1, S7.out.b.cells.2.1, S7.out.b.cells.2.2.1, S7.out.b.cells.2.2.2.1, S7.out.b.cells.2.2.2.2.1, S7.out.b.cells.2.2.2.2.2.1, S7.out.b.cells.2.2.2.2.2.2, HCT.out _ S7.out.o⟩; have HLR2 := Lib.hid hr; clear hr; clear hB)))
    rename_i hHeld
    obtain ⟨rfl, rfl, rfl, rfl⟩ := HLR.out.unique HLR2.out
    clear hHeld q1 q2 SD HCC S6
    go_wp2_with fail
    have SD := Lib.hid S7.out.drew
    have q1 : X7.drew.cell? ⟨w.heap.size, 0, none⟩ = some (.int .i64 x.off) ∧ X7.drew.cell? ⟨w.heap.size, 1, none⟩ = some (.slice x.za x.zl x.zc) ∧ X7.drew.cell? ⟨w.heap.size, 2, none⟩ = some (.slice x.ha x.hl x.hc) ∧ X7.drew.cell? ⟨w.heap.size, 3, none⟩ = some (.slice x.sa x.sl x.sc) ∧ X7.drew.cell? ⟨w.heap.size, 4, none⟩ = some (.slice x.pa x.pl x.pc) ∧ X7.drew.cell? ⟨w.heap.size, 5, none⟩ = some (.slice x.ra x.rl x.rc) ∧ X7.drew.cell? ⟨w.heap.size, 6, none⟩ = some (.slice x.va x.l.length x.vc) ∧ X7.drew.cell? ⟨rb, ro + k, none⟩ = some (.int .i64 t) := ⟨SD.out.b.cells.1, SD.out.b.cells.2.1, SD.out.b.cells.2.2.1, SD.out.b.cells.2.2.2.1, SD.out.b.cells.2.2.2.2.1, SD.out.b.cells.2.2.2.2.2.1, SD.out.b.cells.2.2.2.2.2.2, HCT.out _ SD.out.o⟩
    have HCC := Lib.hid (ratA x t X7.drew SD.out.a HE0.out HL.out HSM.out)
    go_region_held3 (fun w' => w'.cell? ⟨w.heap.size, 0, none⟩ = some (.int .i64 x.off) ∧ w'.cell? ⟨w.heap.size, 1, none⟩ = some (.slice x.za x.zl x.zc) ∧ w'.cell? ⟨w.heap.size, 2, none⟩ = some (.slice x.ha x.hl x.hc) ∧ w'.cell? ⟨w.heap.size, 3, none⟩ = some (.slice x.sa x.sl x.sc) ∧ w'.cell? ⟨w.heap.size, 4, none⟩ = some (.slice x.pa x.pl x.pc) ∧ w'.cell? ⟨w.heap.size, 5, none⟩ = some (.slice x.ra x.rl x.rc) ∧ w'.cell? ⟨w.heap.size, 6, none⟩ = some (.slice x.va x.l.length x.vc) ∧ w'.cell? ⟨rb, ro + k, none⟩ = some (.int .i64 t))
      (first | (with_reducible exact q1) | (with_reducible exact q2) | go_keep)
      (first
        | (go_at_call 10; ((with_reducible refine HCC.out.mono ?_); rintro e X8 ⟨⟨b', pr', h', hr, rfl⟩, hB⟩; have S8 := Lib.hid (SD.out.next hB); have q2 : X8.cell? ⟨w.heap.size, 0, none⟩ = some (.int .i64 x.off) ∧ X8.cell? ⟨w.heap.size, 1, none⟩ = some (.slice x.za x.zl x.zc) ∧ X8.cell? ⟨w.heap.size, 2, none⟩ = some (.slice x.ha x.hl x.hc) ∧ X8.cell? ⟨w.heap.size, 3, none⟩ = some (.slice x.sa x.sl x.sc) ∧ X8.cell? ⟨w.heap.size, 4, none⟩ = some (.slice x.pa x.pl x.pc) ∧ X8.cell? ⟨w.heap.size, 5, none⟩ = some (.slice x.ra x.rl x.rc) ∧ X8.cell? ⟨w.heap.size, 6, none⟩ = some (.slice x.va x.l.length x.vc) ∧ X8.cell? ⟨rb, ro + k, none⟩ = some (.int .i64 t) := ⟨S8.out.b.cells.1, S8.out.b.cells.2.1, S8.out.b.cells.2.2.1, S8.out.b.cells.2.2.2.1, S8.out.b.cells.2.2.2.2.1, S8.out.b.cells.2.2.2.2.2.1, S8.out.b.cells.2.2.2.2.2.2, HCT.out _ S8.out.o⟩; have HAR2 := Lib.hid hr; clear hr; clear hB)))
    rename_i hHeld
    obtain ⟨rfl, rfl, rfl⟩ := HAR.out.unique HAR2.out
    clear hHeld q1 q2 SD HCC S7 HLR HLR2 HAR HAR2
    have u1 : (s != s) = false := by simp
    have u2 : (kd != kd) = false := by simp
    have u3 : (mi != mi) = false := by simp
    have u4 : (g != g) = false := by simp
    have u5 : (b != b) = false := by simp
    have u6 : (pr != pr) = false := by simp
    have u7 : (h != h) = false := by simp
    go_wp2
    refine ⟨⟨_, rfl, rfl, ⟨rfl, rfl, rfl, rfl, rfl, rfl, rfl⟩, _, rfl, ?rel⟩, ?measure⟩
    case rel => exact ⟨k + 1, HK.out, by first | rfl | (show Value.int .i64 (wrap64 ((k : Int) + 1)) = _; rw [wk]), S8.out⟩
    case measure =>
      have hk2 := HK.out
      first
        | (show len - (intOf (.int .i64 (wrap64 ((k : Int) + 1)))).toNat < len - (intOf (.int .i64 (k : Int))).toNat; rw [wk])
        | (show len - (intOf (.int .i64 ((k + 1 : Nat) : Int))).toNat < len - (intOf (.int .i64 (k : Int))).toNat)
        | (show len - (intOf (.int .i64 ((k : Int) + 1))).toNat < len - (intOf (.int .i64 (k : Int))).toNat)
      first
        | (show len - ((k + 1 : Nat) : Int).toNat < len - ((k : Nat) : Int).toNat; omega)
        | (show len - ((k : Int) + 1).toNat < len - ((k : Nat) : Int).toNat; omega)
end Go.Proofs.YtbffmobjiiicoaaGreatDoor
