/- Write. -/
import Derived.Test.YtpcbolmidnoaiaaDSec
set_option linter.unusedVariables false
set_option maxRecDepth 100000
set_option linter.unusedSimpArgs false
namespace Go.Proofs.Ytpcbolmidnoaiaa
open Go.RowKit
theorem DevAt.push {w : World} {p : Pl} {d : Dv} (h : DevAt w p d) {X : World} {v' : Value} {c : List (Int × List Int)} (hu : Upd (fun k => p.vC.ownBlock = some k) w X)
    (ho : X.ownsRow 0 96 129 v' c.length (c.map wcells).flatten) (hv : ∀ k, v'.ownBlock = some k → p.vC.ownBlock = some k ∨ w.heap.size ≤ k) (hk : ({ d with cache := c } : Dv).Ok) :
    DevAt (X.setCell ⟨p.D, 1, none⟩ v') ⟨p.D, p.S, p.cS, p.B1, p.B2, v'⟩ { d with cache := c } ∧ Step p ⟨p.D, p.S, p.cS, p.B1, p.B2, v'⟩ w (X.setCell ⟨p.D, 1, none⟩ v') := by
  obtain ⟨a1, a2, a3, a4, a5, a6, a7⟩ := apart_own h
  have hD : At 53 X p.D _ := h.dev.upd hu (fun q => (a2 _ q).1 rfl)
  have hlt := h.dev.lt
  have hu2 : Upd (fun k => k = p.D ∨ p.vC.ownBlock = some k) w (X.setCell ⟨p.D, 1, none⟩ v') := (hu.mono (fun j e => .inr e)).setCell (p := ⟨p.D, 1, none⟩) (.inl (.inl rfl)) _
  have hu1 : Upd (fun k => k = p.D) X (X.setCell ⟨p.D, 1, none⟩ v') := (Upd.refl (fun k => k = p.D) X).setCell (p := ⟨p.D, 1, none⟩) (.inl rfl) _
  refine ⟨⟨hD.set 1 v', ?_, ?_, ?_, ?_, hk⟩, rfl, hu2.mono (fun j e => e.elim .inl (fun e => .inr (.inr e))), ?_⟩
  · exact h.b1.upd hu2 (fun q => q.elim a3 (fun q => (a7 _ q).1 rfl))
  · exact h.b2.upd hu2 (fun q => q.elim a4 (fun q => (a7 _ q).2 rfl))
  · exact ownsRow_upd h.safe hu2 (fun k e => by cases e; exact fun q => q.elim (fun q => a1 q.symm) (fun q => (a2 _ q).2 rfl))
  · refine ownsRow_upd ho hu1 (fun k e q => ?_)
    rcases hv k e with hv | hv
    · exact (a2 k hv).1 q
    · omega
  · rintro k (rfl | rfl | hk)
    · exact .inl (.inl rfl)
    · exact .inl (.inr (.inl rfl))
    · rcases hv k hk with hv | hv
      · exact .inl (.inr (.inr hv))
      · exact .inr hv
theorem bys_range {B : Nat} {w : World} {A : Option Addr} {m c : Nat} {L : List Int} (hb : Bys8 B w (.slice A m c) L) (h0 : 0 < L.length) : ∃ b off, A = some ⟨b, off, none⟩ ∧ m = L.length ∧ b < B ∧ w.rangeAt b off (vals8 L) := by
  rcases hb.2 with ⟨rfl, _⟩ | ⟨b, off, cap, e, hlt, hc⟩
  · simp at h0
  · cases e
    refine ⟨b, off, rfl, rfl, hlt, fun j v hv => ?_⟩
    have hj : j < L.length := by have := (List.getElem?_eq_some_iff.1 hv).1; simpa [vals8] using this
    rw [vals8_get L j hj] at hv
    cases hv
    exact hc j hj
theorem bys_len {B : Nat} {w : World} {A : Option Addr} {m c : Nat} {L : List Int} (hb : Bys8 B w (.slice A m c) L) : m = L.length := by
  obtain ⟨a, cap, e⟩ := hb.is
  cases e; rfl
theorem range_upd {O : Nat → Prop} {X Y : World} {b o : Nat} {cs : List Value} (h : X.rangeAt b o cs) (hu : Upd O X Y) (hb : b < X.heap.size) (hn : ¬ O b) : Y.rangeAt b o cs := fun j v hv =>
  (World.cell?_of_block (a := ⟨b, o + j, none⟩) (hu.block b hb hn)).trans (h j v hv)
set_option maxRecDepth 100000 in
theorem write_yes (p : Pl) (d : Dv) (w : World) (h : DevAt w p d) (hc : d.calls < 4611686018427387904) (n : Int) (hu : d.down = false) (hn : HasN d n) (L : List Int) (hl : L.length = 128) (hf : d.cache.length ≠ 256)
    (b off cap : Nat) (hby : ∀ x ∈ L, 0 ≤ x ∧ x < 256) (hb : w.rangeAt b off (vals8 L)) (hlt : b < w.heap.size) (ha : ¬ own p b) :
    Calls Try.prog 70 #[ptr p.D, .int .i64 n, .slice (some ⟨b, off, none⟩) 128 cap] w fun e w' => e = .returned (.int .i64 (downE ({ d with cache := d.cache ++ [(n, L)] } : Dv).counted.down)) ∧ ∃ p', DevAt w' p' ({ d with cache := d.cache ++ [(n, L)] } : Dv).counted ∧ Step p p' w w' ∧ p'.B1 = p.B1 ∧ p'.B2 = p.B2 := by
  obtain ⟨a1, a2, a3, a4, a5, a6, a7⟩ := apart_own h
  have hacc := access_any p d w h n
  rw [show accE d n = 0 by unfold accE; rw [hu, if_neg (by simp), if_pos hn]] at hacc
  have HA := Lib.hid hacc
  have hfull := h.ok.full
  have hcl : d.cache.length < 256 := by omega
  have hokc : ({ d with cache := d.cache ++ [(n, L)] } : Dv).Ok := by
    refine ⟨h.ok.pos, h.ok.most, h.ok.secs, ?_, by show (d.cache ++ _).length ≤ 256; simp; omega, h.ok.calls, h.ok.frm, h.ok.num, h.ok.plan⟩
    intro x hx
    rcases List.mem_append.1 hx with q | q
    · exact h.ok.wr x q
    · rw [List.mem_singleton.1 q]; exact ⟨hn.1, hn.2, hl, hby⟩
  obtain ⟨a0, c0, hv0⟩ : ∃ a0 c0, p.vC = .slice a0 d.cache.length c0 := by
    rcases h.cache.2 with ⟨e, e2⟩ | ⟨g, cap, cur, e, _⟩
    · exact ⟨none, 0, by rw [e, e2]⟩
    · exact ⟨_, _, e⟩
  have k1 : w.cell? ⟨p.D, 1, none⟩ = some (.slice a0 d.cache.length c0) := by rw [← hv0]; exact h.dev.cell 1
  have hne : ¬ ((d.cache.length : Int) = 256) := by omega
  have e256 : ((d.cache.length : Int) == 256) = false := by simpa using hne
  have HP := Lib.hid (fun (X : World) (v' : Value) => h.push (X := X) (v' := v') (c := d.cache ++ [(n, L)]))
  have HO := Lib.hid hokc
  have HC := Lib.hid h.cache
  have HD := Lib.hid h.dev
  have HL := Lib.hid hl
  have HCL := Lib.hid hcl
  have HCC := Lib.hid (show ({ d with cache := d.cache ++ [(n, L)] } : Dv).down = false ∧ ({ d with cache := d.cache ++ [(n, L)] } : Dv).calls < 4611686018427387904 from ⟨hu, hc⟩)
  have HAP := Lib.hid (And.intro a2 ha)
  have HB := Lib.hid hb
  have HLT := Lib.hid (show b < w.heap.size ∧ p.D < w.heap.size from ⟨hlt, h.dev.lt⟩)
  have q1 : (fun W : World => W.cell? ⟨p.D, 1, none⟩ = some p.vC ∧ W.rangeAt b off (vals8 L)) w.drew := ⟨h.dev.cell 1, by simpa using hb⟩
  clear h hacc hfull hcl hokc a1 a2 a3 a4 a5 a6 a7 hu hn hc hl hf hb ha hlt hby hne
  go_enter Try.func70, Try.ntmps70
  go_wp2_with (refine HA.out.mono ?_; rintro e w' ⟨rfl, rfl⟩)
  refine regionL (fun W => W.cell? ⟨p.D, 1, none⟩ = some p.vC ∧ W.rangeAt b off (vals8 L)) 14 (by kernel_rfl) ?_
  refine takeL (i := 0) (oi := { dst := some 23, op := Go.Op.move (Go.Operand.tmp 0), type := 27, pos := "blockdev.go:70", after := #[], guard := none }) (v := ptr p.D) [14, 13, 12] rfl (by kernel_rfl) (by kernel_rfl) (by kernel_rfl) (by kernel_rfl) (fun _ _ _ h => calm_panic h) rfl ?_ q1 ?_
  · intro W hW; go_simp
  simp only [Act.put, List.setIfInBounds_toArray, List.set_cons_zero, List.set_cons_succ]
  refine takeL (i := 1) (oi := { dst := some 24, op := Go.Op.move (Go.Operand.tmp 0), type := 27, pos := "blockdev.go:70", after := #[], guard := none }) (v := ptr p.D) [14, 13, 12] rfl (by kernel_rfl) (by kernel_rfl) (by kernel_rfl) (by kernel_rfl) (fun _ _ _ h => calm_panic h) rfl ?_ q1 ?_
  · intro W hW; go_simp
  simp only [Act.put, List.setIfInBounds_toArray, List.set_cons_zero, List.set_cons_succ]
  refine takeL (i := 2) (oi := { dst := some 25, op := Go.Op.nilCheck (Go.Operand.tmp 24), type := 0, pos := "blockdev.go:70", after := #[{ on := 1, ground := Go.Ground.data }], guard := none }) (v := .pointer (some ⟨p.D, 0, none⟩)) [14, 13, 12] rfl (by kernel_rfl) (by kernel_rfl) (by kernel_rfl) (by kernel_rfl) (fun _ _ _ h => calm_panic h) rfl ?_ q1 ?_
  · intro W hW; go_simp
  simp only [Act.put, List.setIfInBounds_toArray, List.set_cons_zero, List.set_cons_succ]
  refine takeL (i := 3) (oi := { dst := some 26, op := Go.Op.fieldAddr 53 (Go.Operand.tmp 25) 1, type := 0, pos := "blockdev.go:70", after := #[{ on := 2, ground := Go.Ground.data }], guard := none }) (v := .pointer (some ⟨p.D, 1, none⟩)) [14, 13, 12] rfl (by kernel_rfl) (by kernel_rfl) (by kernel_rfl) (by kernel_rfl) (fun _ _ _ h => calm_panic h) rfl ?_ q1 ?_
  · intro W hW; go_simp
  simp only [Act.put, List.setIfInBounds_toArray, List.set_cons_zero, List.set_cons_succ]
  refine takeL (i := 4) (oi := { dst := some 27, op := Go.Op.load 51 (Go.Operand.tmp 26), type := 51, pos := "blockdev.go:70", after := #[{ on := 3, ground := Go.Ground.data }], guard := none }) (v := p.vC) [14, 13, 12] rfl (by kernel_rfl) (by kernel_rfl) (by kernel_rfl) (by kernel_rfl) (fun _ _ _ h => calm_panic h) rfl ?_ q1 ?_
  · intro W hW; have k := hW.1; go_simp
  simp only [Act.put, List.setIfInBounds_toArray, List.set_cons_zero, List.set_cons_succ]
  refine takeL (i := 5) (oi := { dst := some 28, op := Go.Op.move (Go.Operand.tmp 1), type := 3, pos := "blockdev.go:70", after := #[], guard := none }) (v := .int .i64 n) [14, 13, 12] rfl (by kernel_rfl) (by kernel_rfl) (by kernel_rfl) (by kernel_rfl) (fun _ _ _ h => calm_panic h) rfl ?_ q1 ?_
  · intro W hW; go_simp
  simp only [Act.put, List.setIfInBounds_toArray, List.set_cons_zero, List.set_cons_succ]
  refine takeL (i := 6) (oi := { dst := some 29, op := Go.Op.move (Go.Operand.tmp 2), type := 23, pos := "blockdev.go:70", after := #[], guard := none }) (v := .slice (some ⟨b, off, none⟩) 128 cap) [14, 13, 12] rfl (by kernel_rfl) (by kernel_rfl) (by kernel_rfl) (by kernel_rfl) (fun _ _ _ h => calm_panic h) rfl ?_ q1 ?_
  · intro W hW; go_simp
  simp only [Act.put, List.setIfInBounds_toArray, List.set_cons_zero, List.set_cons_succ]
  refine takeL (i := 7) (oi := { dst := some 30, op := Go.Op.sliceToArrayPointer 94 (Go.Operand.tmp 29), type := 0, pos := "blockdev.go:70", after := #[{ on := 6, ground := Go.Ground.data }], guard := none }) (v := .pointer (some ⟨b, off, none⟩)) [14, 13, 12] rfl (by kernel_rfl) (by kernel_rfl) (by kernel_rfl) (by kernel_rfl) (fun _ _ _ h => calm_panic h) rfl ?_ q1 ?_
  · exact fun W hW => exec_array rfl rfl (Nat.le_refl _)
  simp only [Act.put, List.setIfInBounds_toArray, List.set_cons_zero, List.set_cons_succ]
  refine takeL (i := 8) (oi := { dst := some 31, op := Go.Op.load 94 (Go.Operand.tmp 30), type := 94, pos := "blockdev.go:70", after := #[{ on := 7, ground := Go.Ground.data }], guard := none }) (v := secA L) [14, 13, 12] rfl (by kernel_rfl) (by kernel_rfl) (by kernel_rfl) (by kernel_rfl) (fun _ _ _ h => calm_panic h) rfl ?_ q1 ?_
  · exact fun W hW => exec_load rfl rfl (load_sec hW.2 HL.out)
  simp only [Act.put, List.setIfInBounds_toArray, List.set_cons_zero, List.set_cons_succ]
  refine takeL (i := 9) (oi := { dst := some 32, op := Go.Op.build 96 #[(0, Go.Operand.tmp 28), (1, Go.Operand.tmp 31)], type := 96, pos := "blockdev.go:70", after := #[{ on := 5, ground := Go.Ground.data }, { on := 8, ground := Go.Ground.data }], guard := none }) (v := wrA n L) [14, 13, 12] rfl (by kernel_rfl) (by kernel_rfl) (by kernel_rfl) (by kernel_rfl) (fun _ _ _ h => calm_panic h) rfl ?_ q1 ?_
  · exact fun W hW => exec_build_wr rfl rfl rfl HL.out
  simp only [Act.put, List.setIfInBounds_toArray, List.set_cons_zero, List.set_cons_succ]
  refine oneL (i := 10) (o := { dst := some 33, op := Go.Op.buildSlice 51 1 #[(0, Go.Operand.tmp 32)], type := 51, pos := "blockdev.go:70", after := #[{ on := 9, ground := Go.Ground.data }], guard := none }) rfl (by kernel_rfl) rfl ?_
  refine wp_by_run (w' := w.drew.alloc (.cells (wcells (n, L)).toArray 96)) (v := .slice (some ⟨w.heap.size, 0, none⟩) 1 1) (exec_slice_wr rfl rfl HL.out) ⟨fun _ => ⟨(World.cell?_alloc_lt _ _ _ HLT.out.2).trans q1.1, World.rangeAt_alloc q1.2 _⟩, ?_⟩
  simp only [Act.put, List.setIfInBounds_toArray, List.set_cons_zero, List.set_cons_succ]
  obtain ⟨X1, hX1⟩ : ∃ X1, X1 = w.drew.alloc (.cells (wcells (n, L)).toArray 96) := ⟨_, rfl⟩
  have hu1 : Upd (fun k => p.vC.ownBlock = some k) w X1 := by rw [hX1]; exact ((Upd.refl _ w).drew).alloc _
  have hg1 : At 96 X1 w.heap.size (wcells (n, L)).toArray := by rw [hX1]; exact At.new _ w.drew _
  rw [← hX1]
  have AR := Lib.hid (show ∀ g, g < w.heap.size → X1.heap[g]? = w.heap[g]? from fun g hg => by rw [hX1]; exact Below.heap_alloc _ _ _ hg)
  have hs1 : X1.heap.size = w.heap.size + 1 := by rw [hX1]; simp
  clear hX1
  have hD1 : At 53 X1 p.D _ := HD.out.upd hu1 (fun q => (HAP.out.1 _ q).1 rfl)
  have hC1 := HC.out
  obtain ⟨v', X2, hr2, ho2, hg2, hv2⟩ := run_append_wr X1 51 p.vC d.cache (by
      rcases hC1 with ⟨hc1, hc2⟩
      refine ⟨hc1, ?_⟩
      rcases hc2 with e | ⟨g, cap', cur, e, hg, hh, rr⟩
      · exact .inl e
      · exact .inr ⟨g, cap', cur, e, hg, (by
          have hgl : g < w.heap.size := (Array.getElem?_eq_some_iff.1 hh).1
          exact (AR.out g hgl).trans hh), rr⟩) HCL.out w.heap.size n L HL.out hg1
  have hu2 : Upd (fun k => p.vC.ownBlock = some k) w X2 := hu1.grown hg2 (fun k e => .inl e)
  have hv3 : ∀ k, v'.ownBlock = some k → p.vC.ownBlock = some k ∨ w.heap.size ≤ k := fun k ek => by
      rcases hv2 with e | e
      · exact .inl (by rw [← e]; exact ek)
      · rw [e] at ek; cases ek; exact .inr (by omega)
  obtain ⟨hdev, hstep⟩ := HP.out X2 v' hu2 ho2 hv3 HO.out
  have hD2 : At 53 X2 p.D _ := HD.out.upd hu2 (fun q => (HAP.out.1 _ q).1 rfl)
  have q2 : (fun W : World => W.cell? ⟨p.D, 1, none⟩ = some p.vC ∧ W.rangeAt b off (vals8 L)) X2 := ⟨hD2.cell 1, range_upd HB.out hu2 HLT.out.1 (fun q => HAP.out.2 (.inr (.inr q)))⟩
  refine oneL (i := 11) (o := { dst := some 34, op := Go.Op.call { callee := Go.Callee.builtin Go.Builtin.append, args := #[Go.Operand.tmp 27, Go.Operand.tmp 33], argTypes := #[51, 51] }, type := 51, pos := "blockdev.go:70", after := #[{ on := 4, ground := Go.Ground.data }, { on := 10, ground := Go.Ground.data }], guard := none }) rfl (by kernel_rfl) rfl ?_
  refine wp_by_run (w' := X2) (v := v') (exec_append rfl rfl rfl hr2) ⟨fun _ => q2, ?_⟩
  simp only [Act.put, List.setIfInBounds_toArray, List.set_cons_zero, List.set_cons_succ]
  refine takeL (i := 12) (oi := { dst := some 35, op := Go.Op.nilCheck (Go.Operand.tmp 23), type := 0, pos := "blockdev.go:70", after := #[{ on := 0, ground := Go.Ground.data }, { on := 0, ground := Go.Ground.phase }, { on := 1, ground := Go.Ground.phase }, { on := 2, ground := Go.Ground.phase }, { on := 3, ground := Go.Ground.phase }, { on := 4, ground := Go.Ground.phase }, { on := 5, ground := Go.Ground.phase }, { on := 6, ground := Go.Ground.phase }, { on := 7, ground := Go.Ground.phase }, { on := 8, ground := Go.Ground.phase }, { on := 9, ground := Go.Ground.phase }, { on := 10, ground := Go.Ground.phase }, { on := 11, ground := Go.Ground.phase }], guard := none }) (v := .pointer (some ⟨p.D, 0, none⟩)) [14, 13] rfl (by kernel_rfl) (by kernel_rfl) (by kernel_rfl) (by kernel_rfl) (fun _ _ _ h => calm_panic h) rfl ?_ q2 ?_
  · intro W hW; go_simp
  simp only [Act.put, List.setIfInBounds_toArray, List.set_cons_zero, List.set_cons_succ]
  refine takeL (i := 13) (oi := { dst := some 36, op := Go.Op.fieldAddr 53 (Go.Operand.tmp 35) 1, type := 0, pos := "blockdev.go:70", after := #[{ on := 12, ground := Go.Ground.data }, { on := 0, ground := Go.Ground.phase }, { on := 1, ground := Go.Ground.phase }, { on := 2, ground := Go.Ground.phase }, { on := 3, ground := Go.Ground.phase }, { on := 4, ground := Go.Ground.phase }, { on := 5, ground := Go.Ground.phase }, { on := 6, ground := Go.Ground.phase }, { on := 7, ground := Go.Ground.phase }, { on := 8, ground := Go.Ground.phase }, { on := 9, ground := Go.Ground.phase }, { on := 10, ground := Go.Ground.phase }, { on := 11, ground := Go.Ground.phase }], guard := none }) (v := .pointer (some ⟨p.D, 1, none⟩)) [14] rfl (by kernel_rfl) (by kernel_rfl) (by kernel_rfl) (by kernel_rfl) (fun _ _ _ h => calm_panic h) rfl ?_ q2 ?_
  · intro W hW; go_simp
  simp only [Act.put, List.setIfInBounds_toArray, List.set_cons_zero, List.set_cons_succ]
  obtain ⟨va, vb, vc, hv'⟩ : ∃ va vb vc, v' = .slice va vb vc := by
    rcases ho2.2 with ⟨e, _⟩ | ⟨g, cap', cur, e, _⟩
    · exact ⟨_, _, _, e⟩
    · exact ⟨_, _, _, e⟩
  have kk : X2.cell? ⟨p.D, 1, none⟩ = some p.vC := hD2.cell 1
  have ff := hD2.free 1
  refine oneL (i := 14) (o := { dst := none, op := Go.Op.store 51 (Go.Operand.tmp 36) (Go.Operand.tmp 34), type := 0, pos := "blockdev.go:70", after := #[{ on := 13, ground := Go.Ground.data }, { on := 11, ground := Go.Ground.data }, { on := 11, ground := Go.Ground.chain }, { on := 0, ground := Go.Ground.phase }, { on := 1, ground := Go.Ground.phase }, { on := 2, ground := Go.Ground.phase }, { on := 3, ground := Go.Ground.phase }, { on := 4, ground := Go.Ground.phase }, { on := 5, ground := Go.Ground.phase }, { on := 6, ground := Go.Ground.phase }, { on := 7, ground := Go.Ground.phase }, { on := 8, ground := Go.Ground.phase }, { on := 9, ground := Go.Ground.phase }, { on := 10, ground := Go.Ground.phase }, { on := 11, ground := Go.Ground.phase }], guard := none }) rfl (by kernel_rfl) rfl ?_
  refine wp_by_skip (w' := X2.setCell ⟨p.D, 1, none⟩ v') (exec_store rfl rfl rfl kk ff (by rw [hv']; rfl) (by kernel_rfl)) ⟨fun h => absurd rfl h, ?_⟩
  simp only [Act.put, List.setIfInBounds_toArray, List.set_cons_zero, List.set_cons_succ]
  refine doneL (by kernel_rfl) (Calm.normal ?_) _
  have HCT := Lib.hid (count_any _ _ _ hdev HCC.out.1 HCC.out.2)
  have HS := Lib.hid hstep
  clear hdev hstep hD2 q2 hu2 hv3 ho2 hg2 hv2 hr2 hD1 hg1 hu1 q1 kk ff hC1 hs1
  generalize X2.setCell ⟨p.D, 1, none⟩ v' = X3 at *
  go_wp2_with (refine HCT.out.mono ?_; rintro e w' ⟨rfl, h1, h2⟩; have HE := Lib.hid (And.intro h1 h2); clear h1 h2)
  go_ret
  exact ⟨rfl, _, HE.out.1, HS.out.trans HE.out.2, rfl, rfl⟩
theorem write_any (p : Pl) (d : Dv) (w : World) (h : DevAt w p d) (hc : d.calls < 4611686018427387904) (n : Int) (A : Option Addr) (m c : Nat) (L : List Int) (hb : Bys8 w.heap.size w (.slice A m c) L) (ha : ∀ k, (Value.slice A m c).ownBlock = some k → ¬ own p k) :
    Calls Try.prog 70 #[ptr p.D, .int .i64 n, .slice A m c] w fun e w' => e = .returned (.int .i64 (writeE d n L.length)) ∧ ∃ p', DevAt w' p' (d.write n L) ∧ Step p p' w w' := by
  have hm := bys_len hb
  have HR := Lib.hid (show DevAt w p d ∧ Step p p w w from ⟨h, Step.refl _ _⟩)
  have HA := Lib.hid (access_any p d w h n)
  unfold writeE Dv.write
  by_cases h0 : accE d n = 0
  · by_cases h1 : L.length = 128
    · by_cases h2 : d.cache.length = 256
      · rw [if_neg (by simp [h0]), if_neg (by simp [h1]), if_pos h2, if_pos (.inr (.inr h2))]
        obtain ⟨a0, c0, hv0⟩ : ∃ a0 c0, p.vC = .slice a0 d.cache.length c0 := by
          rcases h.cache.2 with ⟨e, e2⟩ | ⟨g, cap, cur, e, _⟩
          · exact ⟨none, 0, by rw [e, e2]⟩
          · exact ⟨_, _, e⟩
        have k1 : w.cell? ⟨p.D, 1, none⟩ = some (.slice a0 256 c0) := by rw [← h2, ← hv0]; exact h.dev.cell 1
        rw [h0] at HA
        rw [h1] at hm
        subst hm
        clear h h0 h1 h2 hb ha hv0 hc
        go_enter Try.func70, Try.ntmps70
        go_wp2_with (refine HA.out.mono ?_; rintro e w' ⟨rfl, rfl⟩)
        go_ret
        exact ⟨rfl, _, HR.out⟩
      · rw [if_neg (by simp [h0]), if_neg (by simp [h1]), if_neg h2, if_neg (by simp [h0, h1, h2])]
        have hdn : d.down = false ∧ HasN d n := by
          unfold accE at h0
          cases hu : d.down with
          | true => rw [hu] at h0; simp at h0
          | false =>
            refine ⟨rfl, Classical.byContradiction fun hn => ?_⟩
            rw [hu, if_neg (by simp), if_neg hn] at h0; cases h0
        obtain ⟨b, off, rfl, hm', hlt, hr⟩ := bys_range hb (by omega)
        rw [h1] at hm
        subst hm
        exact (write_yes p d w h hc n hdn.1 hdn.2 L h1 h2 b off c hb.1 hr hlt (ha b rfl)).mono (fun e w' q => by
          obtain ⟨q1, p', q2, q3, _⟩ := q
          exact ⟨q1, p', q2, q3⟩)
    · rw [if_neg (by simp [h0]), if_pos h1, if_pos (.inr (.inl h1))]
      rw [h0] at HA
      subst hm
      have e1 : ¬ ((L.length : Int) = 128) := by omega
      have e2 : ((L.length : Int) != 128) = true := by simpa using e1
      clear h h0 h1 hb ha hc
      go_enter Try.func70, Try.ntmps70
      go_wp2_with (refine HA.out.mono ?_; rintro e w' ⟨rfl, rfl⟩)
      go_ret
      exact ⟨rfl, _, HR.out⟩
  · rw [if_pos (by simpa using h0), if_pos (.inl h0)]
    generalize accE d n = x at *
    have e1 : (x != 0) = true := by simpa using h0
    clear h hb ha hc hm
    go_enter Try.func70, Try.ntmps70
    go_wp2_with (refine HA.out.mono ?_; rintro e w' ⟨rfl, rfl⟩)
    go_ret
    exact ⟨rfl, _, HR.out⟩
theorem write_up (p : Pl) (d : Dv) (w : World) (h : DevAt w p d) (hc : d.calls < 4611686018427387904) (n : Int) (h0 : accE d n = 0) (A : Option Addr) (m c : Nat) (L : List Int) (h1 : L.length = 128) (h2 : d.cache.length ≠ 256) (hb : Bys8 w.heap.size w (.slice A m c) L) (ha : ∀ k, (Value.slice A m c).ownBlock = some k → ¬ own p k) :
    Calls Try.prog 70 #[ptr p.D, .int .i64 n, .slice A m c] w fun e w' => e = .returned (.int .i64 (downE (Dv.counted { d with cache := d.cache ++ [(n, L)] }).down)) ∧ ∃ p', DevAt w' p' (Dv.counted { d with cache := d.cache ++ [(n, L)] }) ∧ Step p p' w w' ∧ p'.B1 = p.B1 ∧ p'.B2 = p.B2 := by
  have hm := bys_len hb
  have hdn : d.down = false ∧ HasN d n := by
    unfold accE at h0
    cases hu : d.down with
    | true => rw [hu] at h0; simp at h0
    | false =>
      refine ⟨rfl, Classical.byContradiction fun hn => ?_⟩
      rw [hu, if_neg (by simp), if_neg hn] at h0; cases h0
  obtain ⟨b, off, rfl, hm', hlt, hr⟩ := bys_range hb (by omega)
  rw [h1] at hm
  subst hm
  exact write_yes p d w h hc n hdn.1 hdn.2 L h1 h2 b off c hb.1 hr hlt (ha b rfl)
end Go.Proofs.Ytpcbolmidnoaiaa
