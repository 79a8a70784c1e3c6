/- apply: a cache's writes reach the sectors. -/
import Derived.Test.YtpcbolmidnoaiaaDPut
set_option linter.unusedVariables false
set_option maxRecDepth 100000
set_option linter.unusedSimpArgs false
namespace Go.Proofs.Ytpcbolmidnoaiaa
open Go.RowKit
attribute [local go_sem] Oper.semAt_some
theorem steady_dev {w0 : World} {p : Pl} {d : Dv} {G : Nat → Prop} (hd : DevAt w0 p d) (hG : ∀ r, G r → w0.heap.size ≤ r) (d' : Dv) : SteadyG G (fun W => Upd (fun k => k = p.S) w0 W ∧ DevAt W p d') := fun X Y row hs hg hr => by
  have hu : Upd (fun k => some k = row) X Y := ⟨hg.os, hg.tape, hg.output, hg.size, fun k hk hn => hg.block k hk hn⟩
  refine ⟨hs.1.grown hg (fun r e => .inr (hG r (hr r e))), hs.2.upd hu ?_ ?_ ?_⟩
  · intro k hk e
    have h1 := hG k (hr k e.symm)
    have h2 : k < w0.heap.size := hd.lt k hk
    omega
  · intro e
    have h1 := hG _ (hr _ e.symm)
    have := hd.b1.lt
    omega
  · intro e
    have h1 := hG _ (hr _ e.symm)
    have := hd.b2.lt
    omega

set_option maxRecDepth 100000 in
set_option maxHeartbeats 4000000 in
theorem apply_F (p : Pl) (d : Dv) (w : World) (h : DevAt w p d) (len : Nat → Nat) (hlen : ∀ k, len k ≤ 128)
    (hF : ∀ X, Only w.heap.size (fun k => k = p.S) w X → ∀ k : Nat, k < d.cache.length → Calls Try.prog 69 #[.int .i64 (k : Int)] X fun e X' => e = .returned (.int .i64 (len k : Int)) ∧ Below X.heap.size X X') :
    Calls Try.prog 39 #[ptr p.D, .func (.func 69) #[] #[]] w fun e w' => (∃ v, e = .returned v) ∧ ∃ p', DevAt w' p' (d.apply len) ∧ Step p p' w w' := by
  obtain ⟨a1, a2, a3, a4, a5, a6, a7⟩ := apart_own h
  have hzw := (zero_of_info wr_zero).1
  obtain ⟨a0, c0, hv0⟩ : ∃ a0 c0, p.vC = .slice a0 d.cache.length c0 := by
    rcases h.cache.2 with ⟨e, e2⟩ | ⟨g, cap, cur, e, _⟩
    · exact ⟨none, 0, by rw [e, e2]⟩
    · exact ⟨_, _, e⟩
  have s1 : (w.alloc (.cells #[ptr p.D] 27)).heap.size = w.heap.size + 1 := World.size_alloc _ _
  have s2 : ((w.alloc (.cells #[ptr p.D] 27)).alloc (.cells #[.slice a0 d.cache.length c0] 51)).heap.size = w.heap.size + 2 := by rw [World.size_alloc, s1]
  have hd1 : DevAt (w.alloc (.cells #[ptr p.D] 27)) p d := h.alloc _
  have cc1 : (w.alloc (.cells #[ptr p.D] 27)).cell? ⟨p.D, 1, none⟩ = some (.slice a0 d.cache.length c0) := by rw [← hv0]; exact hd1.dev.cell 1
  obtain ⟨X, hX⟩ : ∃ X, X = ((w.alloc (.cells #[ptr p.D] 27)).alloc (.cells #[.slice a0 d.cache.length c0] 51)).alloc (.cells #[.func (.func 69) #[] #[]] 78) := ⟨_, rfl⟩
  have sX : X.heap.size = w.heap.size + 3 := by rw [hX, World.size_alloc, s2]
  have y0 : At 27 X w.heap.size #[ptr p.D] := by rw [hX]; exact ((At.new _ w _).alloc _).alloc _
  have y1 : At 51 X (w.heap.size + 1) #[p.vC] := by
    rw [hX, hv0]; have := At.new 51 (w.alloc (.cells #[ptr p.D] 27)) #[.slice a0 d.cache.length c0]; rw [s1] at this; exact this.alloc _
  have y2 : At 78 X (w.heap.size + 2) #[.func (.func 69) #[] #[]] := by
    rw [hX]; have := At.new 78 ((w.alloc (.cells #[ptr p.D] 27)).alloc (.cells #[.slice a0 d.cache.length c0] 51)) #[.func (.func 69) #[] #[]]; rw [s2] at this; exact this
  have hBX : Below w.heap.size w X := by rw [hX]; exact (((Below.refl _ w).alloc (Nat.le_refl _) _).alloc (by rw [s1]; omega) _).alloc (by rw [s2]; omega) _
  have hdX : DevAt X p d := h.below hBX
  have hAP := appliedOf_any a0 d.cache.length c0 69 #[] (w.alloc (.cells #[ptr p.D] 27))
  rw [s1] at hAP
  have HAP := Lib.hid hAP
  have HXX := Lib.hid hX
  have HX := Lib.hid (And.intro sX (And.intro y0 (And.intro y1 (And.intro y2 hBX))))
  have HDX := Lib.hid hdX
  have HW := Lib.hid h
  have HL := Lib.hid (show d.cache.length ≤ 256 ∧ (∀ x ∈ d.cache, x.2.length = 128) from ⟨h.ok.full, fun x hx => (h.ok.wr x hx).2.2.1⟩)
  have HLEN := Lib.hid hlen
  have HF := Lib.hid hF
  have HLT := Lib.hid (show p.D < w.heap.size ∧ p.S < w.heap.size ∧ (∀ k, p.vC.ownBlock = some k → k < w.heap.size) ∧ p.B1 < w.heap.size ∧ p.B2 < w.heap.size from ⟨h.dev.lt, h.lt _ (.inr (.inl rfl)), fun k e => h.lt k (.inr (.inr e)), h.b1.lt, h.b2.lt⟩)
  have HAPT := Lib.hid (And.intro a1 a2)
  have HVC := Lib.hid hv0
  clear h hAP hX sX y0 y1 y2 hBX hdX hd1 s1 s2 a1 a2 a3 a4 a5 a6 a7 hF hlen hv0
  refine (callsIn_wide (n := 6)).1 ?_
  refine callsIn_of_wp_marks Try.func39 rfl trivial ?_ rfl
  simp only [Try.ntmps39, List.size_toArray, List.length_cons, List.length_nil, Nat.reduceAdd, Nat.reduceSub, Array.replicate_succ, Array.replicate_zero, List.push_toArray, List.append_toArray, List.nil_append, List.cons_append]
  gi_wp2_with fail
  refine ⟨trivial, ?_⟩
  refine (callsIn_wide.2 HAP.out).mono ?_
  rintro e w' ⟨rfl, hw⟩
  obtain rfl : X = w' := HXX.out.trans hw.symm
  clear hw cc1 HXX HAP
  gi_wp2_with fail
  obtain ⟨sX, y0, y1, y2, hBX⟩ := HX.out
  have hl := HL.out.2
  refine wpIn_rangeFunc_box (gf := 72) (lb := #[.pointer (some ⟨w.heap.size + 1, 0, none⟩), .pointer (some ⟨w.heap.size + 2, 0, none⟩)]) rfl (enters_of Try.func72 (by kernel_rfl) rfl)
    (applied len 0 d.cache) encA (w.heap.size + 1) (by omega) (fun j => j = p.S)
    (appl_F_seq (6 - 1) (by omega) (w.heap.size + 1) (w.heap.size + 2) (w.heap.size + 1) p.vC d.cache HL.out.1 hl len HLEN.out _ (fun j hj => ⟨by have := HLT.out.2.1; omega, by have := HLT.out.2.1; omega, fun e => (HAPT.out.2 j e).2 hj⟩) X y1 y2 HDX.out.cache
      (fun Z hZ k hk => HF.out Z ((Only.of hBX (Nat.le_refl _)).trans (hZ.mono (by omega))) k hk)) (fun _ => rfl) (fun j hj => by have := HLT.out.2.1; omega)
    (fun pre W => At 27 W w.heap.size #[ptr p.D] ∧ (Upd (fun k => k = p.S) w W ∧ DevAt W p { d with safe := putAll pre d.safe }))
    (fun pre W => False)
    ?hI ?hIx
    ⟨y0, (Upd.of hBX _), HDX.out⟩
    (fun pre x a₁ W => ∃ Bx, X.heap.size + 2 ≤ Bx ∧ At 96 W Bx (wcells x.1).toArray ∧ a₁ = { tmps := #[ptr p.D, .func (.func 69) #[] #[], .pointer (some ⟨w.heap.size, 0, none⟩), undef, .pointer (some ⟨Bx, 0, none⟩), .int .i64 (x.2 : Int), ptr p.D, .pointer (some ⟨p.D, 0, none⟩), .pointer (some ⟨p.D, 1, none⟩), .slice a0 d.cache.length c0, .func (.func 69) #[] #[], .func (.func 72) #[] #[.pointer (some ⟨w.heap.size + 1, 0, none⟩), .pointer (some ⟨w.heap.size + 2, 0, none⟩)], wrA x.1.1 x.1.2, .int .i64 (x.2 : Int), undef, undef, undef, undef, undef, undef, undef, undef, undef, undef, undef, undef, undef, undef, undef], defers := [] })
    ?hAx ?assign ?body ?done ?stop
  case hI => exact fun pre => SteadyG.and (fun X' Y row hs hg hr => (hg.block _ hs.lt (fun e => by have := hr _ e.symm; omega)).trans hs) (steady_dev HW.out (fun r e => by omega) _)
  case hIx => exact fun pre => fun X' Y row hs hg hr => hs
  case hAx => exact fun pre x a₁ X' Y row hs hg hr => let ⟨Bx, e1, e2, e3⟩ := hs; ⟨Bx, e1, (hg.block _ e2.lt (fun e => by have := hr _ e.symm; omega)).trans e2, e3⟩
  case assign =>
    intro l pre x W K hsz hpre hI hK
    obtain ⟨hmem, _⟩ := applied_mem len _ _ _ (hpre.subset (List.mem_append_right _ List.mem_cons_self))
    obtain ⟨⟨n0, L0⟩, m⟩ := x
    have HA := Lib.hid (At.new 96 W (#[.int .i64 0] ++ nums .u8 128 fun _ => 0))
    have HLE := Lib.hid (show L0.length = 128 from hl _ hmem)
    have HF2 := Lib.hid (show ∀ cs, Only (X.heap.size + 2) (fun j => j = p.S) W ((W.alloc (.cells (#[.int .i64 0] ++ nums .u8 128 fun _ => 0) 96)).setRow W.heap.size cs) from fun cs => ((Only.refl _ _ _).alloc hsz _).row (.inr hsz) cs)
    have hbw : ∀ cs, Below W.heap.size W ((W.alloc (.cells (#[.int .i64 0] ++ nums .u8 128 fun _ => 0) 96)).setRow W.heap.size cs) := fun cs => below_row ((Below.refl _ W).alloc (Nat.le_refl _) _) (Nat.le_refl _) cs
    have HI2 := Lib.hid (show ∀ cs, (fun W => At 27 W w.heap.size #[ptr p.D] ∧ (Upd (fun k => k = p.S) w W ∧ DevAt W p { d with safe := putAll pre d.safe })) ((W.alloc (.cells (#[.int .i64 0] ++ nums .u8 128 fun _ => 0) 96)).setRow W.heap.size cs) from fun cs =>
      ⟨hI.1.below hI.1.lt (hbw cs), hI.2.1.trans (Upd.of (hbw cs) (fun _ => False)) (fun j e => e.elim), hI.2.2.below (hbw cs)⟩)
    have HK := Lib.hid hK
    have HSZ := Lib.hid hsz
    clear hI hK hsz hpre y0 y1 y2 hBX sX hbw hmem hl
    unfold encA
    gi_wp2_with (refine store_wr_in (fun _ => trivial) HA.out (by simp [nums_size]) HLE.out rfl rfl rfl rfl ?_)
    exact HK.out _ _ (HF2.out _) (HI2.out _) ⟨W.heap.size, HSZ.out, HA.out.row, rfl⟩
  case body =>
    rintro l pre x a₁ W hsz hpre ⟨z0, hu, hdv⟩ ⟨Bx, hBx, hbx, rfl⟩
    obtain ⟨hmem, k9, _, hm9⟩ := applied_mem len _ _ _ (hpre.subset (List.mem_append_right _ List.mem_cons_self))
    obtain ⟨⟨n0, L0⟩, m⟩ := x
    have hwr := HW.out.ok.wr _ hmem
    have hm : m ≤ 128 := by rw [show m = len k9 from hm9]; exact HLEN.out k9
    have hL0 : L0.length = 128 := hwr.2.2.1
    have hx2 : 0 ≤ n0 ∧ n0 < (({ d with safe := putAll pre d.safe } : Dv).safe.length : Int) ∧ Sec L0 := ⟨hwr.1, by show n0 < ((putAll pre d.safe).length : Int); rw [putAll_len]; exact hwr.2.1, hwr.2.2⟩
    have hput := hdv.drew.put hx2 m hm
    obtain ⟨q, rfl⟩ : ∃ q : Nat, n0 = q := ⟨n0.toNat, by have := hwr.1; omega⟩
    rw [Int.toNat_natCast] at hput
    have hlS : (q : Int) < d.safe.length := hwr.2.1
    have hps : (putAll pre d.safe).length = d.safe.length := putAll_len _ _
    have q1 : (fun Z : World => Z.cell? ⟨w.heap.size, 0, none⟩ = some (ptr p.D) ∧ Z.cell? ⟨p.D, 0, none⟩ = some (.slice (some ⟨p.S, 0, none⟩) d.safe.length p.cS) ∧ Z.cell? ⟨Bx, 0, none⟩ = some (.int .i64 (q : Int))) W.drew := ⟨z0.cell 0, by rw [← hps]; exact hdv.dev.cell 0, hbx.cell 0⟩
    have hsafe := hdv.safe
    have hth : W.there p.S (q * 128) 128 := there_of_row hsafe _ _ (by
      show q * 128 + 128 ≤ (putAll pre d.safe).length * 128
      rw [hps]; omega)
    have HRUN := Lib.hid (fun ty => run_copy_sec W.drew ty p.S (q * 128) Bx 1 m hm L0 hL0 (by simpa using range_of_at hbx) (by simpa using hth))
    have HM := Lib.hid hm
    have HOUT := Lib.hid (show boxPost (X.heap.size + 2) (fun j => j = p.S) (fun W => At 27 W w.heap.size #[ptr p.D] ∧ (Upd (fun k => k = p.S) w W ∧ DevAt W p { d with safe := putAll (pre ++ [(((q : Int), L0), m)]) d.safe })) (fun _ => False) W .normal { tmps := #[], defers := [] } (W.drew.setCells p.S (q * 128) (vals8 (L0.take m))) from by
      have hu2 : Upd (fun k => k = p.S) W.drew (W.drew.setCells p.S (q * 128) (vals8 (L0.take m))) := (Upd.refl (fun k => k = p.S) W.drew).setCells (.inl rfl) _ _
      refine ⟨⟨hu2.size, fun k hk hs => ?_⟩, ?_, ?_, ?_⟩
      · by_cases hk2 : k < W.heap.size
        · exact hu2.block k hk2 hs
        · omega
      · exact (hu2.block _ z0.lt (by have := HLT.out.2.1; omega)).trans z0
      · exact hu.drew.trans hu2 (fun j e => .inl e)
      · rw [putAll_snoc]
        exact hput)
    clear hput hwr hm hL0 hx2 hsafe hth hdv hu z0 hbx hmem hm9 hpre y0 y1 y2 hBX sX hl
    gi_wp2_with fail
    refine regionLIn (fun Z : World => Z.cell? ⟨w.heap.size, 0, none⟩ = some (ptr p.D) ∧ Z.cell? ⟨p.D, 0, none⟩ = some (.slice (some ⟨p.S, 0, none⟩) d.safe.length p.cS) ∧ Z.cell? ⟨Bx, 0, none⟩ = some (.int .i64 (q : Int))) 11 (by kernel_rfl) (by kernel_rfl) ?_
    refine takeL (i := 0) (oi := { dst := some 14, op := Go.Op.load 27 (Go.Operand.tmp 2), type := 27, pos := "blockdev.go:221", after := #[], guard := none }) (v := ptr p.D) [11, 8, 6, 3, 2, 1] rfl (by kernel_rfl) (by kernel_rfl) (by kernel_rfl) (by kernel_rfl) (fun _ _ _ h => only_panic h) rfl ?_ q1 ?_
    · intro Z hZ; have k := hZ.1; go_simp
    simp only [Act.put, List.setIfInBounds_toArray, List.set_cons_zero, List.set_cons_succ]
    refine takeL (i := 1) (oi := { dst := some 15, op := Go.Op.nilCheck (Go.Operand.tmp 14), type := 0, pos := "blockdev.go:221", after := #[{ on := 0, ground := Go.Ground.data }], guard := none }) (v := .pointer (some ⟨p.D, 0, none⟩)) [11, 8, 6, 3, 2] rfl (by kernel_rfl) (by kernel_rfl) (by kernel_rfl) (by kernel_rfl) (fun _ _ _ h => only_panic h) rfl ?_ q1 ?_
    · intro Z hZ; go_simp
    simp only [Act.put, List.setIfInBounds_toArray, List.set_cons_zero, List.set_cons_succ]
    refine takeL (i := 2) (oi := { dst := some 16, op := Go.Op.fieldAddr 53 (Go.Operand.tmp 15) 0, type := 0, pos := "blockdev.go:221", after := #[{ on := 1, ground := Go.Ground.data }], guard := none }) (v := .pointer (some ⟨p.D, 0, none⟩)) [11, 8, 6, 3] rfl (by kernel_rfl) (by kernel_rfl) (by kernel_rfl) (by kernel_rfl) (fun _ _ _ h => only_panic h) rfl ?_ q1 ?_
    · intro Z hZ; go_simp
    simp only [Act.put, List.setIfInBounds_toArray, List.set_cons_zero, List.set_cons_succ]
    refine takeL (i := 3) (oi := { dst := some 17, op := Go.Op.load 48 (Go.Operand.tmp 16), type := 48, pos := "blockdev.go:221", after := #[{ on := 2, ground := Go.Ground.data }], guard := none }) (v := .slice (some ⟨p.S, 0, none⟩) d.safe.length p.cS) [11, 8, 6] rfl (by kernel_rfl) (by kernel_rfl) (by kernel_rfl) (by kernel_rfl) (fun _ _ _ h => only_panic h) rfl ?_ q1 ?_
    · intro Z hZ; have k := hZ.2.1; go_simp
    simp only [Act.put, List.setIfInBounds_toArray, List.set_cons_zero, List.set_cons_succ]
    refine takeL (i := 4) (oi := { dst := some 18, op := Go.Op.fieldAddr 96 (Go.Operand.tmp 4) 0, type := 0, pos := "blockdev.go:221", after := #[], guard := none }) (v := .pointer (some ⟨Bx, 0, none⟩)) [11, 8, 6, 5] rfl (by kernel_rfl) (by kernel_rfl) (by kernel_rfl) (by kernel_rfl) (fun _ _ _ h => only_panic h) rfl ?_ q1 ?_
    · intro Z hZ; go_simp
    simp only [Act.put, List.setIfInBounds_toArray, List.set_cons_zero, List.set_cons_succ]
    refine takeL (i := 5) (oi := { dst := some 19, op := Go.Op.load 3 (Go.Operand.tmp 18), type := 3, pos := "blockdev.go:221", after := #[{ on := 4, ground := Go.Ground.data }], guard := none }) (v := .int .i64 (q : Int)) [11, 8, 6] rfl (by kernel_rfl) (by kernel_rfl) (by kernel_rfl) (by kernel_rfl) (fun _ _ _ h => only_panic h) rfl ?_ q1 ?_
    · intro Z hZ; have k := hZ.2.2; go_simp
    simp only [Act.put, List.setIfInBounds_toArray, List.set_cons_zero, List.set_cons_succ]
    refine takeL (i := 6) (oi := { dst := some 20, op := Go.Op.indexAddr 48 (Go.Operand.tmp 17) (Go.Operand.tmp 19), type := 0, pos := "blockdev.go:221", after := #[{ on := 3, ground := Go.Ground.data }, { on := 5, ground := Go.Ground.data }], guard := none }) (v := .pointer (some ⟨p.S, q * 128, none⟩)) [11, 8] rfl (by kernel_rfl) (by kernel_rfl) (by kernel_rfl) (by kernel_rfl) (fun _ _ _ h => only_panic h) rfl ?_ q1 ?_
    · intro Z hZ; go_simp
    simp only [Act.put, List.setIfInBounds_toArray, List.set_cons_zero, List.set_cons_succ]
    refine takeL (i := 7) (oi := { dst := some 21, op := Go.Op.move (Go.Operand.tmp 5), type := 3, pos := "blockdev.go:221", after := #[], guard := none }) (v := .int .i64 (m : Int)) [11, 8] rfl (by kernel_rfl) (by kernel_rfl) (by kernel_rfl) (by kernel_rfl) (fun _ _ _ h => only_panic h) rfl ?_ q1 ?_
    · intro Z hZ; go_simp
    simp only [Act.put, List.setIfInBounds_toArray, List.set_cons_zero, List.set_cons_succ]
    refine takeL (i := 8) (oi := { dst := some 22, op := Go.Op.slice 94 (Go.Operand.tmp 20) none (some (Go.Operand.tmp 21)) none, type := 23, pos := "blockdev.go:221", after := #[{ on := 6, ground := Go.Ground.data }, { on := 7, ground := Go.Ground.data }], guard := none }) (v := .slice (some ⟨p.S, q * 128, none⟩) m 128) [11] rfl (by kernel_rfl) (by kernel_rfl) (by kernel_rfl) (by kernel_rfl) (fun _ _ _ h => only_panic h) rfl ?_ q1 ?_
    · intro Z hZ; have e := slice_first p.S (q * 128) m HM.out Z; go_simp
    simp only [Act.put, List.setIfInBounds_toArray, List.set_cons_zero, List.set_cons_succ]
    refine takeL (i := 9) (oi := { dst := some 23, op := Go.Op.fieldAddr 96 (Go.Operand.tmp 4) 1, type := 0, pos := "blockdev.go:221", after := #[], guard := none }) (v := .pointer (some ⟨Bx, 1, none⟩)) [11, 10] rfl (by kernel_rfl) (by kernel_rfl) (by kernel_rfl) (by kernel_rfl) (fun _ _ _ h => only_panic h) rfl ?_ q1 ?_
    · intro Z hZ; go_simp
    simp only [Act.put, List.setIfInBounds_toArray, List.set_cons_zero, List.set_cons_succ]
    refine takeL (i := 10) (oi := { dst := some 24, op := Go.Op.slice 94 (Go.Operand.tmp 23) none none none, type := 23, pos := "blockdev.go:221", after := #[{ on := 9, ground := Go.Ground.data }], guard := none }) (v := .slice (some ⟨Bx, 1, none⟩) 128 128) [11] rfl (by kernel_rfl) (by kernel_rfl) (by kernel_rfl) (by kernel_rfl) (fun _ _ _ h => only_panic h) rfl ?_ q1 ?_
    · intro Z hZ; have e := slice_whole Bx 1 Z; go_simp
    simp only [Act.put, List.setIfInBounds_toArray, List.set_cons_zero, List.set_cons_succ]
    refine oneL (i := 11) (o := { dst := some 25, op := Go.Op.call { callee := Go.Callee.builtin Go.Builtin.copy, args := #[Go.Operand.tmp 22, Go.Operand.tmp 24], argTypes := #[23, 23] }, type := 3, pos := "blockdev.go:221", after := #[{ on := 8, ground := Go.Ground.data }, { on := 10, ground := Go.Ground.data }], guard := none }) rfl (by kernel_rfl) rfl ?_
    refine wp_by_run (w' := W.drew.setCells p.S (q * 128) (vals8 (L0.take m))) (v := .int .i64 (m : Int)) (exec_copy rfl rfl rfl (HRUN.out _)) ⟨fun h => absurd rfl h, ?_⟩
    simp only [Act.put, List.setIfInBounds_toArray, List.set_cons_zero, List.set_cons_succ]
    refine doneL (by kernel_rfl) (⟨rfl, ?_⟩) _
    gi_wp2
    exact HOUT.out
  case done =>
    rintro D0 W hD ⟨z0, hu, hdv⟩ hK
    have hpush := DevAt.push hdv (X := W) (v' := .slice none 0 0) (c := []) (Upd.refl _ W) (World.ownsRow_nil _ _ _ _) (fun k e => by cases e)
      ⟨hdv.ok.pos, hdv.ok.most, hdv.ok.secs, (fun c hc => by cases hc), Nat.zero_le _, hdv.ok.calls, hdv.ok.frm, hdv.ok.num, hdv.ok.plan⟩
    have k0 : W.cell? ⟨w.heap.size, 0, none⟩ = some (ptr p.D) := z0.cell 0
    have k1 : W.cell? ⟨p.D, 1, none⟩ = some (.slice a0 d.cache.length c0) := by rw [← HVC.out]; exact hdv.dev.cell 1
    have f1 := hdv.dev.free 1
    have HP := Lib.hid hpush
    have HU := Lib.hid hu
    have hne : p.D ≠ D0 := by have := HLT.out.1; omega
    have HK := Lib.hid (show (W.setCell ⟨p.D, 1, none⟩ (.slice none 0 0)).heap[D0]? = some (.deferred (some [])) from (heap_setCell_other W ⟨p.D, 1, none⟩ D0 _ (fun e => hne e.symm)).trans hK)
    have HD := Lib.hid (show w.heap.size + 3 ≤ D0 by omega)
    clear hpush z0 hu hdv hK hD y0 y1 y2 hBX sX hl hne
    gi_wp2
    refine ⟨by simp, .inl ⟨_, _, rfl, run_takeDeferred HK.out, ?_⟩⟩
    have hDD := HD.out
    have hlt := HLT.out
    have hst : Step p ⟨p.D, p.S, p.cS, p.B1, p.B2, .slice none 0 0⟩ w (W.setCell ⟨p.D, 1, none⟩ (.slice none 0 0)) := ⟨rfl, (HU.out.mono (fun j e => .inr (.inl e))).trans HP.out.2.upd (fun j e => .inl e), fun k hk => by
      rcases hk with rfl | rfl | hk
      · exact .inl (.inl rfl)
      · exact .inl (.inr (.inl rfl))
      · cases hk⟩
    have hub : ∀ o, Upd (fun k => k = D0) (W.setCell ⟨p.D, 1, none⟩ (.slice none 0 0)) ((W.setCell ⟨p.D, 1, none⟩ (.slice none 0 0)).putObj D0 o) := fun o => (Upd.refl (fun k => k = D0) _).putObj (.inl rfl) o
    refine ⟨_, results_none rfl _ _ _, ⟨_, rfl⟩, ⟨p.D, p.S, p.cS, p.B1, p.B2, .slice none 0 0⟩, ?_, rfl, hst.upd.putObj (.inr (by omega)) _, hst.has⟩
    refine HP.out.1.upd (hub _) (fun k hk e => ?_) (fun e => ?_) (fun e => ?_)
    · rcases hk with q | q | q
      · have : k = p.D := q; omega
      · have : k = p.S := q; omega
      · cases q
    · have : p.B1 = D0 := e; omega
    · have : p.B2 = D0 := e; omega
  case stop => exact fun D pre W _ _ h _ => h.elim

set_option maxRecDepth 100000 in
set_option maxHeartbeats 4000000 in
theorem apply_R (p : Pl) (d : Dv) (w : World) (h : DevAt w p d) (cb : Nat) (len : Nat → Nat) (hlen : ∀ k, len k ≤ 128)
    (hF : ∀ X, Only w.heap.size (fun k => k = p.S) w X → ∀ k : Nat, k < d.cache.length → Calls Try.prog 40 #[.int .i64 (k : Int), .pointer (some ⟨cb, 0, none⟩)] X fun e X' => e = .returned (.int .i64 (len k : Int)) ∧ Below X.heap.size X X') :
    Calls Try.prog 39 #[ptr p.D, .func (.func 40) #[] #[.pointer (some ⟨cb, 0, none⟩)]] w fun e w' => (∃ v, e = .returned v) ∧ ∃ p', DevAt w' p' (d.apply len) ∧ Step p p' w w' := by
  obtain ⟨a1, a2, a3, a4, a5, a6, a7⟩ := apart_own h
  have hzw := (zero_of_info wr_zero).1
  obtain ⟨a0, c0, hv0⟩ : ∃ a0 c0, p.vC = .slice a0 d.cache.length c0 := by
    rcases h.cache.2 with ⟨e, e2⟩ | ⟨g, cap, cur, e, _⟩
    · exact ⟨none, 0, by rw [e, e2]⟩
    · exact ⟨_, _, e⟩
  have s1 : (w.alloc (.cells #[ptr p.D] 27)).heap.size = w.heap.size + 1 := World.size_alloc _ _
  have s2 : ((w.alloc (.cells #[ptr p.D] 27)).alloc (.cells #[.slice a0 d.cache.length c0] 51)).heap.size = w.heap.size + 2 := by rw [World.size_alloc, s1]
  have hd1 : DevAt (w.alloc (.cells #[ptr p.D] 27)) p d := h.alloc _
  have cc1 : (w.alloc (.cells #[ptr p.D] 27)).cell? ⟨p.D, 1, none⟩ = some (.slice a0 d.cache.length c0) := by rw [← hv0]; exact hd1.dev.cell 1
  obtain ⟨X, hX⟩ : ∃ X, X = ((w.alloc (.cells #[ptr p.D] 27)).alloc (.cells #[.slice a0 d.cache.length c0] 51)).alloc (.cells #[.func (.func 40) #[] #[.pointer (some ⟨cb, 0, none⟩)]] 78) := ⟨_, rfl⟩
  have sX : X.heap.size = w.heap.size + 3 := by rw [hX, World.size_alloc, s2]
  have y0 : At 27 X w.heap.size #[ptr p.D] := by rw [hX]; exact ((At.new _ w _).alloc _).alloc _
  have y1 : At 51 X (w.heap.size + 1) #[p.vC] := by
    rw [hX, hv0]; have := At.new 51 (w.alloc (.cells #[ptr p.D] 27)) #[.slice a0 d.cache.length c0]; rw [s1] at this; exact this.alloc _
  have y2 : At 78 X (w.heap.size + 2) #[.func (.func 40) #[] #[.pointer (some ⟨cb, 0, none⟩)]] := by
    rw [hX]; have := At.new 78 ((w.alloc (.cells #[ptr p.D] 27)).alloc (.cells #[.slice a0 d.cache.length c0] 51)) #[.func (.func 40) #[] #[.pointer (some ⟨cb, 0, none⟩)]]; rw [s2] at this; exact this
  have hBX : Below w.heap.size w X := by rw [hX]; exact (((Below.refl _ w).alloc (Nat.le_refl _) _).alloc (by rw [s1]; omega) _).alloc (by rw [s2]; omega) _
  have hdX : DevAt X p d := h.below hBX
  have hAP := appliedOf_any a0 d.cache.length c0 40 #[.pointer (some ⟨cb, 0, none⟩)] (w.alloc (.cells #[ptr p.D] 27))
  rw [s1] at hAP
  have HAP := Lib.hid hAP
  have HXX := Lib.hid hX
  have HX := Lib.hid (And.intro sX (And.intro y0 (And.intro y1 (And.intro y2 hBX))))
  have HDX := Lib.hid hdX
  have HW := Lib.hid h
  have HL := Lib.hid (show d.cache.length ≤ 256 ∧ (∀ x ∈ d.cache, x.2.length = 128) from ⟨h.ok.full, fun x hx => (h.ok.wr x hx).2.2.1⟩)
  have HLEN := Lib.hid hlen
  have HF := Lib.hid hF
  have HLT := Lib.hid (show p.D < w.heap.size ∧ p.S < w.heap.size ∧ (∀ k, p.vC.ownBlock = some k → k < w.heap.size) ∧ p.B1 < w.heap.size ∧ p.B2 < w.heap.size from ⟨h.dev.lt, h.lt _ (.inr (.inl rfl)), fun k e => h.lt k (.inr (.inr e)), h.b1.lt, h.b2.lt⟩)
  have HAPT := Lib.hid (And.intro a1 a2)
  have HVC := Lib.hid hv0
  clear h hAP hX sX y0 y1 y2 hBX hdX hd1 s1 s2 a1 a2 a3 a4 a5 a6 a7 hF hlen hv0
  refine (callsIn_wide (n := 6)).1 ?_
  refine callsIn_of_wp_marks Try.func39 rfl trivial ?_ rfl
  simp only [Try.ntmps39, List.size_toArray, List.length_cons, List.length_nil, Nat.reduceAdd, Nat.reduceSub, Array.replicate_succ, Array.replicate_zero, List.push_toArray, List.append_toArray, List.nil_append, List.cons_append]
  gi_wp2_with fail
  refine ⟨trivial, ?_⟩
  refine (callsIn_wide.2 HAP.out).mono ?_
  rintro e w' ⟨rfl, hw⟩
  obtain rfl : X = w' := HXX.out.trans hw.symm
  clear hw cc1 HXX HAP
  gi_wp2_with fail
  obtain ⟨sX, y0, y1, y2, hBX⟩ := HX.out
  have hl := HL.out.2
  refine wpIn_rangeFunc_box (gf := 72) (lb := #[.pointer (some ⟨w.heap.size + 1, 0, none⟩), .pointer (some ⟨w.heap.size + 2, 0, none⟩)]) rfl (enters_of Try.func72 (by kernel_rfl) rfl)
    (applied len 0 d.cache) encA (w.heap.size + 1) (by omega) (fun j => j = p.S)
    (appl_R_seq (6 - 1) (by omega) (w.heap.size + 1) (w.heap.size + 2) (w.heap.size + 1) p.vC d.cache HL.out.1 hl cb len HLEN.out _ (fun j hj => ⟨by have := HLT.out.2.1; omega, by have := HLT.out.2.1; omega, fun e => (HAPT.out.2 j e).2 hj⟩) X y1 y2 HDX.out.cache
      (fun Z hZ k hk => HF.out Z ((Only.of hBX (Nat.le_refl _)).trans (hZ.mono (by omega))) k hk)) (fun _ => rfl) (fun j hj => by have := HLT.out.2.1; omega)
    (fun pre W => At 27 W w.heap.size #[ptr p.D] ∧ (Upd (fun k => k = p.S) w W ∧ DevAt W p { d with safe := putAll pre d.safe }))
    (fun pre W => False)
    ?hI ?hIx
    ⟨y0, (Upd.of hBX _), HDX.out⟩
    (fun pre x a₁ W => ∃ Bx, X.heap.size + 2 ≤ Bx ∧ At 96 W Bx (wcells x.1).toArray ∧ a₁ = { tmps := #[ptr p.D, .func (.func 40) #[] #[.pointer (some ⟨cb, 0, none⟩)], .pointer (some ⟨w.heap.size, 0, none⟩), undef, .pointer (some ⟨Bx, 0, none⟩), .int .i64 (x.2 : Int), ptr p.D, .pointer (some ⟨p.D, 0, none⟩), .pointer (some ⟨p.D, 1, none⟩), .slice a0 d.cache.length c0, .func (.func 40) #[] #[.pointer (some ⟨cb, 0, none⟩)], .func (.func 72) #[] #[.pointer (some ⟨w.heap.size + 1, 0, none⟩), .pointer (some ⟨w.heap.size + 2, 0, none⟩)], wrA x.1.1 x.1.2, .int .i64 (x.2 : Int), undef, undef, undef, undef, undef, undef, undef, undef, undef, undef, undef, undef, undef, undef, undef], defers := [] })
    ?hAx ?assign ?body ?done ?stop
  case hI => exact fun pre => SteadyG.and (fun X' Y row hs hg hr => (hg.block _ hs.lt (fun e => by have := hr _ e.symm; omega)).trans hs) (steady_dev HW.out (fun r e => by omega) _)
  case hIx => exact fun pre => fun X' Y row hs hg hr => hs
  case hAx => exact fun pre x a₁ X' Y row hs hg hr => let ⟨Bx, e1, e2, e3⟩ := hs; ⟨Bx, e1, (hg.block _ e2.lt (fun e => by have := hr _ e.symm; omega)).trans e2, e3⟩
  case assign =>
    intro l pre x W K hsz hpre hI hK
    obtain ⟨hmem, _⟩ := applied_mem len _ _ _ (hpre.subset (List.mem_append_right _ List.mem_cons_self))
    obtain ⟨⟨n0, L0⟩, m⟩ := x
    have HA := Lib.hid (At.new 96 W (#[.int .i64 0] ++ nums .u8 128 fun _ => 0))
    have HLE := Lib.hid (show L0.length = 128 from hl _ hmem)
    have HF2 := Lib.hid (show ∀ cs, Only (X.heap.size + 2) (fun j => j = p.S) W ((W.alloc (.cells (#[.int .i64 0] ++ nums .u8 128 fun _ => 0) 96)).setRow W.heap.size cs) from fun cs => ((Only.refl _ _ _).alloc hsz _).row (.inr hsz) cs)
    have hbw : ∀ cs, Below W.heap.size W ((W.alloc (.cells (#[.int .i64 0] ++ nums .u8 128 fun _ => 0) 96)).setRow W.heap.size cs) := fun cs => below_row ((Below.refl _ W).alloc (Nat.le_refl _) _) (Nat.le_refl _) cs
    have HI2 := Lib.hid (show ∀ cs, (fun W => At 27 W w.heap.size #[ptr p.D] ∧ (Upd (fun k => k = p.S) w W ∧ DevAt W p { d with safe := putAll pre d.safe })) ((W.alloc (.cells (#[.int .i64 0] ++ nums .u8 128 fun _ => 0) 96)).setRow W.heap.size cs) from fun cs =>
      ⟨hI.1.below hI.1.lt (hbw cs), hI.2.1.trans (Upd.of (hbw cs) (fun _ => False)) (fun j e => e.elim), hI.2.2.below (hbw cs)⟩)
    have HK := Lib.hid hK
    have HSZ := Lib.hid hsz
    clear hI hK hsz hpre y0 y1 y2 hBX sX hbw hmem hl
    unfold encA
    gi_wp2_with (refine store_wr_in (fun _ => trivial) HA.out (by simp [nums_size]) HLE.out rfl rfl rfl rfl ?_)
    exact HK.out _ _ (HF2.out _) (HI2.out _) ⟨W.heap.size, HSZ.out, HA.out.row, rfl⟩
  case body =>
    rintro l pre x a₁ W hsz hpre ⟨z0, hu, hdv⟩ ⟨Bx, hBx, hbx, rfl⟩
    obtain ⟨hmem, k9, _, hm9⟩ := applied_mem len _ _ _ (hpre.subset (List.mem_append_right _ List.mem_cons_self))
    obtain ⟨⟨n0, L0⟩, m⟩ := x
    have hwr := HW.out.ok.wr _ hmem
    have hm : m ≤ 128 := by rw [show m = len k9 from hm9]; exact HLEN.out k9
    have hL0 : L0.length = 128 := hwr.2.2.1
    have hx2 : 0 ≤ n0 ∧ n0 < (({ d with safe := putAll pre d.safe } : Dv).safe.length : Int) ∧ Sec L0 := ⟨hwr.1, by show n0 < ((putAll pre d.safe).length : Int); rw [putAll_len]; exact hwr.2.1, hwr.2.2⟩
    have hput := hdv.drew.put hx2 m hm
    obtain ⟨q, rfl⟩ : ∃ q : Nat, n0 = q := ⟨n0.toNat, by have := hwr.1; omega⟩
    rw [Int.toNat_natCast] at hput
    have hlS : (q : Int) < d.safe.length := hwr.2.1
    have hps : (putAll pre d.safe).length = d.safe.length := putAll_len _ _
    have q1 : (fun Z : World => Z.cell? ⟨w.heap.size, 0, none⟩ = some (ptr p.D) ∧ Z.cell? ⟨p.D, 0, none⟩ = some (.slice (some ⟨p.S, 0, none⟩) d.safe.length p.cS) ∧ Z.cell? ⟨Bx, 0, none⟩ = some (.int .i64 (q : Int))) W.drew := ⟨z0.cell 0, by rw [← hps]; exact hdv.dev.cell 0, hbx.cell 0⟩
    have hsafe := hdv.safe
    have hth : W.there p.S (q * 128) 128 := there_of_row hsafe _ _ (by
      show q * 128 + 128 ≤ (putAll pre d.safe).length * 128
      rw [hps]; omega)
    have HRUN := Lib.hid (fun ty => run_copy_sec W.drew ty p.S (q * 128) Bx 1 m hm L0 hL0 (by simpa using range_of_at hbx) (by simpa using hth))
    have HM := Lib.hid hm
    have HOUT := Lib.hid (show boxPost (X.heap.size + 2) (fun j => j = p.S) (fun W => At 27 W w.heap.size #[ptr p.D] ∧ (Upd (fun k => k = p.S) w W ∧ DevAt W p { d with safe := putAll (pre ++ [(((q : Int), L0), m)]) d.safe })) (fun _ => False) W .normal { tmps := #[], defers := [] } (W.drew.setCells p.S (q * 128) (vals8 (L0.take m))) from by
      have hu2 : Upd (fun k => k = p.S) W.drew (W.drew.setCells p.S (q * 128) (vals8 (L0.take m))) := (Upd.refl (fun k => k = p.S) W.drew).setCells (.inl rfl) _ _
      refine ⟨⟨hu2.size, fun k hk hs => ?_⟩, ?_, ?_, ?_⟩
      · by_cases hk2 : k < W.heap.size
        · exact hu2.block k hk2 hs
        · omega
      · exact (hu2.block _ z0.lt (by have := HLT.out.2.1; omega)).trans z0
      · exact hu.drew.trans hu2 (fun j e => .inl e)
      · rw [putAll_snoc]
        exact hput)
    clear hput hwr hm hL0 hx2 hsafe hth hdv hu z0 hbx hmem hm9 hpre y0 y1 y2 hBX sX hl
    gi_wp2_with fail
    refine regionLIn (fun Z : World => Z.cell? ⟨w.heap.size, 0, none⟩ = some (ptr p.D) ∧ Z.cell? ⟨p.D, 0, none⟩ = some (.slice (some ⟨p.S, 0, none⟩) d.safe.length p.cS) ∧ Z.cell? ⟨Bx, 0, none⟩ = some (.int .i64 (q : Int))) 11 (by kernel_rfl) (by kernel_rfl) ?_
    refine takeL (i := 0) (oi := { dst := some 14, op := Go.Op.load 27 (Go.Operand.tmp 2), type := 27, pos := "blockdev.go:221", after := #[], guard := none }) (v := ptr p.D) [11, 8, 6, 3, 2, 1] rfl (by kernel_rfl) (by kernel_rfl) (by kernel_rfl) (by kernel_rfl) (fun _ _ _ h => only_panic h) rfl ?_ q1 ?_
    · intro Z hZ; have k := hZ.1; go_simp
    simp only [Act.put, List.setIfInBounds_toArray, List.set_cons_zero, List.set_cons_succ]
    refine takeL (i := 1) (oi := { dst := some 15, op := Go.Op.nilCheck (Go.Operand.tmp 14), type := 0, pos := "blockdev.go:221", after := #[{ on := 0, ground := Go.Ground.data }], guard := none }) (v := .pointer (some ⟨p.D, 0, none⟩)) [11, 8, 6, 3, 2] rfl (by kernel_rfl) (by kernel_rfl) (by kernel_rfl) (by kernel_rfl) (fun _ _ _ h => only_panic h) rfl ?_ q1 ?_
    · intro Z hZ; go_simp
    simp only [Act.put, List.setIfInBounds_toArray, List.set_cons_zero, List.set_cons_succ]
    refine takeL (i := 2) (oi := { dst := some 16, op := Go.Op.fieldAddr 53 (Go.Operand.tmp 15) 0, type := 0, pos := "blockdev.go:221", after := #[{ on := 1, ground := Go.Ground.data }], guard := none }) (v := .pointer (some ⟨p.D, 0, none⟩)) [11, 8, 6, 3] rfl (by kernel_rfl) (by kernel_rfl) (by kernel_rfl) (by kernel_rfl) (fun _ _ _ h => only_panic h) rfl ?_ q1 ?_
    · intro Z hZ; go_simp
    simp only [Act.put, List.setIfInBounds_toArray, List.set_cons_zero, List.set_cons_succ]
    refine takeL (i := 3) (oi := { dst := some 17, op := Go.Op.load 48 (Go.Operand.tmp 16), type := 48, pos := "blockdev.go:221", after := #[{ on := 2, ground := Go.Ground.data }], guard := none }) (v := .slice (some ⟨p.S, 0, none⟩) d.safe.length p.cS) [11, 8, 6] rfl (by kernel_rfl) (by kernel_rfl) (by kernel_rfl) (by kernel_rfl) (fun _ _ _ h => only_panic h) rfl ?_ q1 ?_
    · intro Z hZ; have k := hZ.2.1; go_simp
    simp only [Act.put, List.setIfInBounds_toArray, List.set_cons_zero, List.set_cons_succ]
    refine takeL (i := 4) (oi := { dst := some 18, op := Go.Op.fieldAddr 96 (Go.Operand.tmp 4) 0, type := 0, pos := "blockdev.go:221", after := #[], guard := none }) (v := .pointer (some ⟨Bx, 0, none⟩)) [11, 8, 6, 5] rfl (by kernel_rfl) (by kernel_rfl) (by kernel_rfl) (by kernel_rfl) (fun _ _ _ h => only_panic h) rfl ?_ q1 ?_
    · intro Z hZ; go_simp
    simp only [Act.put, List.setIfInBounds_toArray, List.set_cons_zero, List.set_cons_succ]
    refine takeL (i := 5) (oi := { dst := some 19, op := Go.Op.load 3 (Go.Operand.tmp 18), type := 3, pos := "blockdev.go:221", after := #[{ on := 4, ground := Go.Ground.data }], guard := none }) (v := .int .i64 (q : Int)) [11, 8, 6] rfl (by kernel_rfl) (by kernel_rfl) (by kernel_rfl) (by kernel_rfl) (fun _ _ _ h => only_panic h) rfl ?_ q1 ?_
    · intro Z hZ; have k := hZ.2.2; go_simp
    simp only [Act.put, List.setIfInBounds_toArray, List.set_cons_zero, List.set_cons_succ]
    refine takeL (i := 6) (oi := { dst := some 20, op := Go.Op.indexAddr 48 (Go.Operand.tmp 17) (Go.Operand.tmp 19), type := 0, pos := "blockdev.go:221", after := #[{ on := 3, ground := Go.Ground.data }, { on := 5, ground := Go.Ground.data }], guard := none }) (v := .pointer (some ⟨p.S, q * 128, none⟩)) [11, 8] rfl (by kernel_rfl) (by kernel_rfl) (by kernel_rfl) (by kernel_rfl) (fun _ _ _ h => only_panic h) rfl ?_ q1 ?_
    · intro Z hZ; go_simp
    simp only [Act.put, List.setIfInBounds_toArray, List.set_cons_zero, List.set_cons_succ]
    refine takeL (i := 7) (oi := { dst := some 21, op := Go.Op.move (Go.Operand.tmp 5), type := 3, pos := "blockdev.go:221", after := #[], guard := none }) (v := .int .i64 (m : Int)) [11, 8] rfl (by kernel_rfl) (by kernel_rfl) (by kernel_rfl) (by kernel_rfl) (fun _ _ _ h => only_panic h) rfl ?_ q1 ?_
    · intro Z hZ; go_simp
    simp only [Act.put, List.setIfInBounds_toArray, List.set_cons_zero, List.set_cons_succ]
    refine takeL (i := 8) (oi := { dst := some 22, op := Go.Op.slice 94 (Go.Operand.tmp 20) none (some (Go.Operand.tmp 21)) none, type := 23, pos := "blockdev.go:221", after := #[{ on := 6, ground := Go.Ground.data }, { on := 7, ground := Go.Ground.data }], guard := none }) (v := .slice (some ⟨p.S, q * 128, none⟩) m 128) [11] rfl (by kernel_rfl) (by kernel_rfl) (by kernel_rfl) (by kernel_rfl) (fun _ _ _ h => only_panic h) rfl ?_ q1 ?_
    · intro Z hZ; have e := slice_first p.S (q * 128) m HM.out Z; go_simp
    simp only [Act.put, List.setIfInBounds_toArray, List.set_cons_zero, List.set_cons_succ]
    refine takeL (i := 9) (oi := { dst := some 23, op := Go.Op.fieldAddr 96 (Go.Operand.tmp 4) 1, type := 0, pos := "blockdev.go:221", after := #[], guard := none }) (v := .pointer (some ⟨Bx, 1, none⟩)) [11, 10] rfl (by kernel_rfl) (by kernel_rfl) (by kernel_rfl) (by kernel_rfl) (fun _ _ _ h => only_panic h) rfl ?_ q1 ?_
    · intro Z hZ; go_simp
    simp only [Act.put, List.setIfInBounds_toArray, List.set_cons_zero, List.set_cons_succ]
    refine takeL (i := 10) (oi := { dst := some 24, op := Go.Op.slice 94 (Go.Operand.tmp 23) none none none, type := 23, pos := "blockdev.go:221", after := #[{ on := 9, ground := Go.Ground.data }], guard := none }) (v := .slice (some ⟨Bx, 1, none⟩) 128 128) [11] rfl (by kernel_rfl) (by kernel_rfl) (by kernel_rfl) (by kernel_rfl) (fun _ _ _ h => only_panic h) rfl ?_ q1 ?_
    · intro Z hZ; have e := slice_whole Bx 1 Z; go_simp
    simp only [Act.put, List.setIfInBounds_toArray, List.set_cons_zero, List.set_cons_succ]
    refine oneL (i := 11) (o := { dst := some 25, op := Go.Op.call { callee := Go.Callee.builtin Go.Builtin.copy, args := #[Go.Operand.tmp 22, Go.Operand.tmp 24], argTypes := #[23, 23] }, type := 3, pos := "blockdev.go:221", after := #[{ on := 8, ground := Go.Ground.data }, { on := 10, ground := Go.Ground.data }], guard := none }) rfl (by kernel_rfl) rfl ?_
    refine wp_by_run (w' := W.drew.setCells p.S (q * 128) (vals8 (L0.take m))) (v := .int .i64 (m : Int)) (exec_copy rfl rfl rfl (HRUN.out _)) ⟨fun h => absurd rfl h, ?_⟩
    simp only [Act.put, List.setIfInBounds_toArray, List.set_cons_zero, List.set_cons_succ]
    refine doneL (by kernel_rfl) (⟨rfl, ?_⟩) _
    gi_wp2
    exact HOUT.out
  case done =>
    rintro D0 W hD ⟨z0, hu, hdv⟩ hK
    have hpush := DevAt.push hdv (X := W) (v' := .slice none 0 0) (c := []) (Upd.refl _ W) (World.ownsRow_nil _ _ _ _) (fun k e => by cases e)
      ⟨hdv.ok.pos, hdv.ok.most, hdv.ok.secs, (fun c hc => by cases hc), Nat.zero_le _, hdv.ok.calls, hdv.ok.frm, hdv.ok.num, hdv.ok.plan⟩
    have k0 : W.cell? ⟨w.heap.size, 0, none⟩ = some (ptr p.D) := z0.cell 0
    have k1 : W.cell? ⟨p.D, 1, none⟩ = some (.slice a0 d.cache.length c0) := by rw [← HVC.out]; exact hdv.dev.cell 1
    have f1 := hdv.dev.free 1
    have HP := Lib.hid hpush
    have HU := Lib.hid hu
    have hne : p.D ≠ D0 := by have := HLT.out.1; omega
    have HK := Lib.hid (show (W.setCell ⟨p.D, 1, none⟩ (.slice none 0 0)).heap[D0]? = some (.deferred (some [])) from (heap_setCell_other W ⟨p.D, 1, none⟩ D0 _ (fun e => hne e.symm)).trans hK)
    have HD := Lib.hid (show w.heap.size + 3 ≤ D0 by omega)
    clear hpush z0 hu hdv hK hD y0 y1 y2 hBX sX hl hne
    gi_wp2
    refine ⟨by simp, .inl ⟨_, _, rfl, run_takeDeferred HK.out, ?_⟩⟩
    have hDD := HD.out
    have hlt := HLT.out
    have hst : Step p ⟨p.D, p.S, p.cS, p.B1, p.B2, .slice none 0 0⟩ w (W.setCell ⟨p.D, 1, none⟩ (.slice none 0 0)) := ⟨rfl, (HU.out.mono (fun j e => .inr (.inl e))).trans HP.out.2.upd (fun j e => .inl e), fun k hk => by
      rcases hk with rfl | rfl | hk
      · exact .inl (.inl rfl)
      · exact .inl (.inr (.inl rfl))
      · cases hk⟩
    have hub : ∀ o, Upd (fun k => k = D0) (W.setCell ⟨p.D, 1, none⟩ (.slice none 0 0)) ((W.setCell ⟨p.D, 1, none⟩ (.slice none 0 0)).putObj D0 o) := fun o => (Upd.refl (fun k => k = D0) _).putObj (.inl rfl) o
    refine ⟨_, results_none rfl _ _ _, ⟨_, rfl⟩, ⟨p.D, p.S, p.cS, p.B1, p.B2, .slice none 0 0⟩, ?_, rfl, hst.upd.putObj (.inr (by omega)) _, hst.has⟩
    refine HP.out.1.upd (hub _) (fun k hk e => ?_) (fun e => ?_) (fun e => ?_)
    · rcases hk with q | q | q
      · have : k = p.D := q; omega
      · have : k = p.S := q; omega
      · cases q
    · have : p.B1 = D0 := e; omega
    · have : p.B2 = D0 := e; omega
  case stop => exact fun D pre W _ _ h _ => h.elim
end Go.Proofs.Ytpcbolmidnoaiaa
