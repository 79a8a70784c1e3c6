/- A call of both devices: Read. -/
import Derived.Test.YteopbeafhhfdoaaPDoW
import Derived.Test.YteopbeafhhfdoaaDRead
set_option linter.unusedVariables false
set_option linter.unusedSimpArgs false
namespace Go.Proofs.Yteopbeafhhfdoaa
open Go.RowKit Go.Maps
section
variable {B : Nat} {p : Pl} {q : Rl} {d : Dv} {w w' : World}
theorem row8_at {T : TypeId} {g : Nat} {L : List Int} (h : At T w g (vals8 L).toArray) : Row8 g L.length (fun j => L.getD j 0) w := fun j hj => by
  refine ⟨?_, h.free j⟩
  rw [h.cell]
  simpa using vals8_get L j hj
set_option maxRecDepth 100000 in
set_option maxHeartbeats 1000000 in
theorem do_read_yes (h : Both w B p q d) (x : Opn) (hk : x.kind = 5) (hn : accE d x.n = 0) :
    Calls Try.prog 11 #[ptr p.D, ptr q.D, .agg (opC x)] w (DoE w B p q d) := by
  have hb : Below w.heap.size w (boxW w x) := (Below.refl _ _).alloc (Nat.le_refl _) _
  have hB := h.grow hb
  have HM0 := Lib.hid (And.intro hb h.size)
  have HR := Lib.hid (read_yes p d (boxW w x) hB.dev x.n hn)
  have HQ := Lib.hid (fun (w1 : World) (h1 : RefAt w1 q d) => rread_yes q d w1 h1 x.n hn)
  have HS := Lib.hid (read_bytes h.dev.ok (has_of hn))
  obtain ⟨L, hL⟩ : ∃ L, d.read x.n = L := ⟨_, rfl⟩
  rw [hL] at HR HQ HS
  have HB := Lib.hid hB
  have HA0 := Lib.hid (At.new 36 w (opC x))
  have HSZ := Lib.hid (show (boxW w x).heap.size = w.heap.size + 1 by simp)
  unfold boxW opC at *
  rw [hk] at *
  clear h hb hB hk hn hL
  go_enter Try.func11, Try.ntmps11
  go_wp2_with (first
    | (go_at_call 22; refine HR.out.mono ?_; rintro e w1 ⟨⟨g, hg, rfl, hat, hb1⟩, hl⟩; have HB1 := Lib.hid (HB.out.grow hb1); have HA1 := Lib.hid (HA0.out.below (by rw [HSZ.out]; omega) hb1); have HMB := Lib.hid (HM0.out.1.trans (hb1.mono (by rw [HSZ.out]; omega))); have HAT := Lib.hid (And.intro hat (And.intro hg hl)); have b1 : w1.cell? ⟨w.heap.size, 1, none⟩ = some (.int .i64 x.n) := HA1.out.cell 1; have H3 := Lib.hid (HQ.out w1 HB1.out.ref); clear hg hat hb1 hl)
    | (go_at_call 36; refine H3.out.mono ?_; rintro e w2 ⟨v, rfl, hO, hb2⟩; obtain ⟨va, vc, hv⟩ := hO.form; have hc2 := conv_bys (show Bys8 w2.heap.size w2 (.slice va L.length vc) L by rw [← hv]; exact hO.bys); have hat2 := HAT.out.1.below HAT.out.1.lt hb2; have hc1 := conv_bys (bys_at hat2 HS.out.2 128); rw [HS.out.1] at hv hc1 hc2; subst hv; have HX := Lib.hid (And.intro hat2 hb2); obtain ⟨s, hs⟩ : ∃ s, strOfNums L = s := ⟨_, rfl⟩; rw [hs] at hc1 hc2; clear hO hb2 hat2 hs)
    | fail)
  go_loopw [123] (fun i wr => ∃ (k : Nat) (f : Nat → Int), k ≤ 128 ∧ i = .int .i64 (k : Int) ∧ Row8 g 128 f wr ∧ Upd (fun k => k = g) w2 wr) (fun i _ => (128 - intOf i).toNat)
  case atStart => exact ⟨0, _, Nat.zero_le _, rfl, by have := row8_at HX.out.1; rw [HS.out.1] at this; exact this, Upd.refl _ _⟩
  case round =>
    obtain ⟨k, f, hk, rfl, hP, hU⟩ := hrel
    clear b1 hc1 hc2
    by_cases hkn : k < 128
    · have i1 : (k : Int) < 128 := by omega
      have in0 : (0 : Int) ≤ (k : Int) := by omega
      have wk : wrap64 ((k : Int) + 1) = ((k + 1 : Nat) : Int) := by unfold wrap64; omega
      obtain ⟨c1, f1⟩ := hP k hkn
      have HP := Lib.hid (And.intro hP hU)
      have HK := Lib.hid hkn
      clear hP hU hkn hk
      go_wp2
      go_roundw
      case rel => exact ⟨k + 1, _, HK.out, by first | rfl | rw [wk], HP.out.1.set k _, HP.out.2.setCell (p := ⟨g, k, none⟩) (.inl rfl) _⟩
      case measure =>
        have hk9 := HK.out
        clear wk
        show ((128 : Int) - ((k : Int) + 1)).toNat < ((128 : Int) - (k : Int)).toNat
        omega
    · have hke : k = 128 := by omega
      subst hke
      have i1 : ¬ (((128 : Nat) : Int) < 128) := by omega
      have HU := Lib.hid hU
      clear hP hU hkn hk
      go_wp2
      go_ret
      have hB2 := HB1.out.grow HX.out.2
      have hw0 := HAT.out.2.1
      have hsz := HSZ.out
      have hz := hB2.row (g := g) (by have := row8_at HX.out.1; rw [HS.out.1] at this; exact this) (by omega) (Nat.le_trans HB.out.size hw0) (fun e => by have := HB.out.dev.lt _ e; omega) (fun e => by have := HB.out.ref.lt _ e; omega) (fun k cs fr hk _ e => by
        have h9 := HX.out.1
        unfold At at h9
        rw [e, h9] at hk
        simp at hk) HU.out
      exact ⟨by first | rfl | simp, p, q, d, hz.1, (Moved.of HM0.out.2 (HMB.out.trans (HX.out.2.mono HMB.out.size))).row HU.out (by omega) HM0.out.2, rfl, by omega⟩
theorem do_read_no (h : Both w B p q d) (x : Opn) (hk : x.kind = 5) (hn : accE d x.n ≠ 0) :
    Calls Try.prog 11 #[ptr p.D, ptr q.D, .agg (opC x)] w (DoE w B p q d) := by
  have hb : Below w.heap.size w (boxW w x) := (Below.refl _ _).alloc (Nat.le_refl _) _
  have hB := h.grow hb
  have HR := Lib.hid (read_no p d (boxW w x) hB.dev x.n hn)
  have HQ := Lib.hid (rread_no q d (boxW w x) hB.ref x.n hn)
  obtain ⟨E, hE⟩ : ∃ E, accE d x.n = E := ⟨_, rfl⟩
  rw [hE] at HR HQ
  have HF := Lib.hid (show DoE w B p q d (.returned (.bool true)) (boxW w x) from ⟨rfl, p, q, d, hB, Moved.of h.size hb, rfl, by omega⟩)
  have hcn := fun w0 => run_convert_bytes_nil (P := Try.prog) w0 32 5 Try.underlying32 Try.underlying5 0 0 9 Try.underlying9
  unfold boxW opC at *
  rw [hk] at *
  clear h hb hB hk hn hE
  go_enter Try.func11, Try.ntmps11
  go_wp2_with (first
    | (go_at_call 22; refine HR.out.mono ?_; rintro e w1 ⟨rfl, rfl⟩)
    | (go_at_call 36; refine HQ.out.mono ?_; rintro e w1 ⟨rfl, rfl⟩)
    | fail)
  go_loopw [123] (fun i wr => i = .int .i64 0 ∧ wr = w.alloc (.cells #[.int .i64 5, .int .i64 x.n, .int .u8 x.b, .int .i64 x.len, .slice x.ka x.K.length x.kc, .int .i64 x.torn, .int .i64 x.at_] 36)) (fun _ _ => 0)
  case atStart => exact ⟨rfl, rfl⟩
  case round =>
    obtain ⟨rfl, hwr⟩ := hrel
    have i1 : ¬ ((0 : Int) < 0) := by omega
    have HWR := Lib.hid hwr
    clear hwr
    go_wp2
    go_ret
    rw [HWR.out]
    have hf := HF.out
    exact ⟨by first | rfl | simp, hf.2⟩
end
end Go.Proofs.Yteopbeafhhfdoaa
