/- Restart, of a crash that may keep nothing. -/
import Derived.Test.YtpcbolmidnoaiaaDFlush
set_option linter.unusedVariables false
set_option maxRecDepth 100000
set_option linter.unusedSimpArgs false
namespace Go.Proofs.Ytpcbolmidnoaiaa
open Go.RowKit
theorem bys_updE {O : Nat → Prop} {B : Nat} {X Y : World} {a : Option Addr} {l c : Nat} {K : List Int} (h : Bys8 B X (.slice a l c) K) (hB : B ≤ X.heap.size) (hu : ∀ k, k < X.heap.size → ¬ O k → Y.heap[k]? = X.heap[k]?) (ha : K ≠ [] → ∀ k, (Value.slice a l c).ownBlock = some k → ¬ O k) : Bys8 B Y (.slice a l c) K := by
  refine ⟨h.1, ?_⟩
  rcases h.2 with ⟨rfl, e⟩ | ⟨b, off, cap, e, hb, hc⟩
  · exact .inl ⟨rfl, e⟩
  · cases e
    refine .inr ⟨b, off, c, rfl, hb, fun j hj => ?_⟩
    exact (World.cell?_of_block (a := ⟨b, off + j, none⟩) (hu b (by omega) (ha (fun e => by rw [e] at hj; exact absurd hj (Nat.not_lt_zero _)) b rfl))).trans (hc j hj)
set_option maxRecDepth 100000 in
theorem restart_yesE (p : Pl) (d : Dv) (w : World) (h : DevAt w p d) (hd : d.down = true) (a : Option Addr) (l c : Nat) (K : List Int) (t x : Int) (hK : Bys8 w.heap.size w (.slice a l c) K) (ha : K ≠ [] → ∀ k, (Value.slice a l c).ownBlock = some k → ¬ own p k) :
    Calls Try.prog 16 #[ptr p.D, crashV a l c t x] w fun e w' => e = .returned (.int .i64 0) ∧ ∃ p', DevAt w' p' (d.restart (leftN K t x)) ∧ Step p p' w w' := by
  obtain ⟨X, hX⟩ : ∃ X, X = w.alloc (.cells #[.slice a l c, .int .i64 t, .int .i64 x] 25) := ⟨_, rfl⟩
  have hBX : Below w.heap.size w X := by rw [hX]; exact (Below.refl _ w).alloc (Nat.le_refl _) _
  have hcb : At 25 X w.heap.size #[.slice a l c, .int .i64 t, .int .i64 x] := by rw [hX]; exact At.new _ w _
  have hdX : DevAt X p d := h.below hBX
  have sX : X.heap.size = w.heap.size + 1 := by rw [hX, World.size_alloc]
  have hS := h.lt p.S (.inr (.inl rfl))
  have k4 : X.cell? ⟨p.D, 4, none⟩ = some (.bool true) := by rw [← hd]; exact hdX.dev.cell 4
  have HM := Lib.hid (made_any p d X hdX)
  have HA := Lib.hid (apply_R p d X hdX w.heap.size (leftN K t x) (fun k => leftN_le K t x k) (fun Z hZ k hk => by
    have hfull := h.ok.full
    refine restart1_any w.heap.size w.heap.size a l c K t x k (by omega) Z ?_ ?_ (by have := hZ.size; omega)
    · exact (hZ.block _ hcb.lt (by omega)).trans hcb
    · exact bys_updE (O := fun k => k = p.S) (hK.below hBX) (by omega) hZ.block (fun hne k hk e => ha hne k hk (.inr (.inl e)))))
  have eD : d.restart (leftN K t x) = { d.apply (leftN K t x) with frm := d.calls, num := 0, down := false } := by unfold Dv.restart; rw [if_pos hd]
  rw [eD]
  have hok := h.ok
  have hok1 : ({ d.apply (leftN K t x) with frm := d.calls, num := 0 } : Dv).Ok := by
    have := hok.apply (leftN K t x)
    exact ⟨this.pos, this.most, this.secs, this.wr, this.full, this.calls, ⟨hok.calls, Int.le_refl _⟩, ⟨Int.le_refl _, by show (0 : Int) ≤ _; omega⟩, .inl rfl⟩
  have hok2 : ({ d.apply (leftN K t x) with frm := d.calls, num := 0, down := false } : Dv).Ok := ⟨hok1.pos, hok1.most, hok1.secs, hok1.wr, hok1.full, hok1.calls, hok1.frm, hok1.num, .inl rfl⟩
  have HOK := Lib.hid (And.intro hok1 hok2)
  have HX := Lib.hid hX
  have HSX := Lib.hid (Step.of p hBX)
  clear h hd hK ha hBX hcb hdX sX hS eD hok hok1 hok2 hX
  unfold crashV
  go_enter Try.func16, Try.ntmps16
  go_wp2_with fail
  rw [← HX.out]
  refine HM.out.mono ?_
  rintro e w' ⟨rfl, rfl⟩
  go_wp2_with fail
  refine HA.out.mono ?_
  rintro e w2 ⟨⟨v, rfl⟩, p2, h2, s2⟩
  have hD2 : p2.D = p.D := s2.D
  have k3 : w2.cell? ⟨p.D, 3, none⟩ = some (.int .i64 d.calls) := by rw [← hD2]; exact h2.dev.cell 3
  have HP := Lib.hid (planFrom_any d.calls 0 w2)
  obtain ⟨W3, hW3⟩ : ∃ W3, W3 = planW w2 d.calls 0 := ⟨_, rfl⟩
  obtain ⟨h3, s3⟩ := h2.planned (d' := { d.apply (leftN K t x) with frm := d.calls, num := 0 }) d.calls 0 rfl rfl rfl rfl rfl HOK.out.1 rfl rfl
  rw [← hW3] at h3 s3
  obtain ⟨W4, hW4⟩ : ∃ W4, W4 = W3.setCell ⟨p.D, 2, none⟩ (planF w2.heap.size (w2.heap.size + 1)) := ⟨_, rfl⟩
  rw [hD2, ← hW4] at h3 s3
  have g2 : W3.cell? ⟨p.D, 2, none⟩ = some (planF p2.B1 p2.B2) := by rw [hW3, ← hD2]; exact ((h2.dev.alloc _).alloc _).cell 2
  have f2 : W3.frozen? ⟨p.D, 2, none⟩ = false := by rw [hW3, ← hD2]; exact ((h2.dev.alloc _).alloc _).free 2
  have g4 : W4.cell? ⟨p.D, 4, none⟩ = some (.bool d.down) := h3.dev.cell 4
  have f4 : W4.frozen? ⟨p.D, 4, none⟩ = false := h3.dev.free 4
  have hu5 : Upd (fun k => k = p.D) W4 (W4.setCell ⟨p.D, 4, none⟩ (.bool false)) := (Upd.refl (fun k => k = p.D) W4).setCell (p := ⟨p.D, 4, none⟩) (.inl rfl) _
  have h5 := h3.field (w' := W4.setCell ⟨p.D, 4, none⟩ (.bool false)) (d' := { d.apply (leftN K t x) with frm := d.calls, num := 0, down := false }) (vC' := p.vC) (b1 := 0) (b2 := 0) hu5 (h3.dev.set 4 (.bool false)) rfl rfl rfl rfl HOK.out.2
  have s5 := (HSX.out.trans s2).trans (s3.trans (step_field ⟨p.D, p2.S, p2.cS, w2.heap.size, w2.heap.size + 1, p2.vC⟩ hu5))
  have HR := Lib.hid (And.intro h5 s5)
  have HW3 := Lib.hid hW3
  have HW4 := Lib.hid hW4
  rw [hW4] at g4 f4
  dsimp only [planF] at g2 g4 f4
  clear h5 s5 hu5 h3 s3 h2 s2 hW3 hW4 hD2
  go_wp2_with (refine HP.out.mono ?_; rintro e w' ⟨rfl, hw'⟩; rw [← HW3.out] at hw'; subst hw'; dsimp only [planF])
  go_ret
  have hr := HR.out
  rw [HW4.out] at hr
  exact ⟨rfl, _, hr⟩
theorem restart_noE (p : Pl) (d : Dv) (w : World) (h : DevAt w p d) (hd : d.down = false) (a : Option Addr) (l c : Nat) (t x : Int) (len : Nat → Nat) :
    Calls Try.prog 16 #[ptr p.D, crashV a l c t x] w fun e w' => e = .returned (.int .i64 2) ∧ ∃ p', DevAt w' p' (d.restart len) ∧ Step p p' w w' := by
  obtain ⟨X, hX⟩ : ∃ X, X = w.alloc (.cells #[.slice a l c, .int .i64 t, .int .i64 x] 25) := ⟨_, rfl⟩
  have hBX : Below w.heap.size w X := by rw [hX]; exact (Below.refl _ w).alloc (Nat.le_refl _) _
  have hdX : DevAt X p d := h.below hBX
  have k4 : X.cell? ⟨p.D, 4, none⟩ = some (.bool false) := by rw [← hd]; exact hdX.dev.cell 4
  have HM := Lib.hid (made_any p d X hdX)
  have eD : d.restart len = d := by unfold Dv.restart; rw [if_neg (by rw [hd]; simp)]
  rw [eD]
  have HR := Lib.hid (And.intro hdX (Step.of p hBX))
  have HX := Lib.hid hX
  clear h hd hBX hdX hX eD
  unfold crashV
  go_enter Try.func16, Try.ntmps16
  go_wp2_with fail
  rw [← HX.out]
  refine HM.out.mono ?_
  rintro e w' ⟨rfl, rfl⟩
  go_wp2
  go_ret
  exact ⟨rfl, _, HR.out⟩
theorem restart_anyE (p : Pl) (d : Dv) (w : World) (h : DevAt w p d) (a : Option Addr) (l c : Nat) (K : List Int) (t x : Int) (hK : Bys8 w.heap.size w (.slice a l c) K) (ha : K ≠ [] → ∀ k, (Value.slice a l c).ownBlock = some k → ¬ own p k) :
    Calls Try.prog 16 #[ptr p.D, crashV a l c t x] w fun e w' => e = .returned (.int .i64 (restartE d)) ∧ ∃ p', DevAt w' p' (d.restart (leftN K t x)) ∧ Step p p' w w' := by
  unfold restartE
  cases hd : d.down
  · exact restart_noE p d w h hd a l c t x _
  · exact restart_yesE p d w h hd a l c K t x hK ha
end Go.Proofs.Ytpcbolmidnoaiaa
