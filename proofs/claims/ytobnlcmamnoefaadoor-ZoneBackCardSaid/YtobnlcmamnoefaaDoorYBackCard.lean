/- ZoneBack: an instant is among those of its local time, and each of those has that; without rules it is the only one; for every zone, instant and moment; the package's table of the months' lengths holds what the program's text lays. -/
import Derived.Test.YtobnlcmamnoefaaDoorRows
import Derived.WalkKit
import Derived.ProofKit
import Derived.OpenShut
import Derived.ShutString
import Derived.ChangeOld
import Derived.Below
import Derived.LaidMore
import Derived.Stop.Joined
import Derived.SevenTiedAt
import Derived.Lib.LaidTab
import Derived.Test.YtobnlcmamnoefaaDoorTie
import Derived.Test.YtobnlcmamnoefaaDoorCards
import Derived.Test.YtobnlcmamnoefaaDoorKLaid
import Derived.Test.YtobnlcmamnoefaaDoorKOpen
import Derived.Test.YtobnlcmamnoefaaDoorZOpen
import Derived.Test.YtobnlcmamnoefaaDoorYBack
namespace Go.Proofs.YtobnlcmamnoefaaDoor.zoneBack
open Go.ChangeShapes Go.WideShapes Go.ChangeAt Go.RowKit
open Go.ChangeMaps (open_string shut_string)
set_option linter.unusedVariables false

theorem own : ownKnob Tryd.prog.godebug = none := by kernel_rfl
theorem laidOut : laidOutB Tryd.prog = true := by kernel_rfl

theorem walk (off0 : Int) (z0 : Option Addr) (len0 cap0 : Nat) (R0 : Nat → Rl) (a1 : Int) (y2 m2 d2 h2 mi2 s2 : Int) (w : World) (hT : Tabs w) (w0 : In64 off0 ∧ RulesAt w.heap.size w z0 len0 R0) (w1 : (Lit.int .i64 a1).wf = true) (w2 : In64 y2 ∧ In64 m2 ∧ In64 d2 ∧ In64 h2 ∧ In64 mi2 ∧ In64 s2) :
    Calls Tryd.prog 6 #[zoneV off0 z0 len0 cap0, .int .i64 a1, momV y2 m2 d2 h2 mi2 s2] w fun e w' => e = .returned (.bool true) ∧ Below w.heap.size w w' :=
  zoneBack_any off0 z0 len0 cap0 R0 a1 y2 m2 d2 h2 mi2 s2 w hT w0 w1 w2

/-! ### THE ROW's STEP -/
set_option maxRecDepth 100000 in
theorem lifted (os : Os) (started : os.Started) (H : Type) (enc : TypeId × Value → H) :
    ReturnsInHanded {} Tryd.checked os 6 .any (fun w args => (Rows.zoneBackSpec.pre enc Tryd.prog Tryd.f6 [] false w args ∧ laidMetH Tryd.prog laidL w) ∧ sizedMet enc Tryd.prog Tryd.f6 (OpenSpec.ofChange Rows.zoneBackSpec) false w args)
      (Rows.zoneBackSpec.post enc Tryd.prog Tryd.f6 false true false false) := by
  refine returnsInHanded_of_change_and (C := Tryd.checked) (X := fun w _ => laidMetH Tryd.prog laidL w) (fun _ _ _ hh h => h.of_heap hh) own started (by kernel_rfl) Tryd.func6
    (ChangeSpec.witness_shaped (enc := enc) (C := Tryd.checked) (os := os) (X := fun w _ => laidMetH Tryd.prog laidL w) false (World.doorLaid Tryd.prog 14 os) #[zoneV 0 none 0 0, .int .i64 0, momV 0 0 0 0 0 0] 8 rfl (World.shaped_of_RefB (by kernel_rfl) (by kernel_rfl)) (by kernel_rfl) (by kernel_rfl) (by kernel_rfl) (door_met os _)) ?_
  intro W base args ds gs before hval0 hW _ _ hL _
  have hval : ∀ (j : Nat) t v, Tryd.f6.params[j]? = some t → args[j]? = some v → Value.okWide Tryd.prog W .any base t v := hval0
  have hW' := hW
  obtain ⟨p, q, hA0, hV, rfl, hfz, hnd⟩ := hW
  have hA : DataW.TrodAll enc Tryd.prog W 0 (fun _ => true) true Tryd.f6.params.toList args.toList ds p := hA0
  rw [Tryd.params6] at hA hval
  obtain ⟨v0, vs0, dt0, ds0, p0, q0, hargs, rfl, rfl, hh0, r0⟩ := trodAll_cons hA
  obtain ⟨v1, vs1, dt1, ds1, p1, q1, rfl, rfl, rfl, hh1, r1⟩ := trodAll_cons r0
  obtain ⟨v2, vs2, dt2, ds2, p2, q2, rfl, rfl, rfl, hh2, r2⟩ := trodAll_cons r1
  obtain ⟨rfl, rfl, rfl⟩ := trodAll_nil r2
  obtain rfl : args = #[v0, v1, v2] := by cases args; simp_all
  obtain ⟨rfl, rfl⟩ := trodVars_none hV
  have k0 := hh0
  have lt0 : ∀ x ∈ p0, x.block < W.heap.size := by obtain ⟨m, hm⟩ := k0; exact DataW.trod_lt m _ _ _ hm
  obtain ⟨off0, z0, len0, cap0, R0, rfl, wo0, _, _, wr0⟩ := open_zone (hval 0 24 v0 rfl rfl) hh0
  have w0 := And.intro wo0 wr0
  obtain ⟨a1, rfl, rfl, rfl, w1⟩ := open_int Tryd.underlying2 (hval 1 2 v1 rfl rfl) hh1
  have k2 := hh2
  have lt2 : ∀ x ∈ p2, x.block < W.heap.size := by obtain ⟨m, hm⟩ := k2; exact DataW.trod_lt m _ _ _ hm
  obtain ⟨y2, m2, d2, h2, mi2, s2, rfl, w2⟩ := open_moment (hval 2 44 v2 rfl rfl) hh2
  clear hA0 hval0
  refine (walk off0 z0 len0 cap0 R0 a1 y2 m2 d2 h2 mi2 s2 W (of_laid hL) w0 w1 w2).mono fun e W' ⟨he, bel⟩ => ?_
  subst he
  exact ⟨_, rfl, _, _, _, [], _, [], hW', trodAll_mk1 (shut_bool Tryd.underlying4 _), (trodAll_cons_mk (Below.trod laidOut (by kernel_rfl) (of_decide_eq_true (by kernel_rfl)) k0 bel lt0) (trodAll_cons_mk (shut_int Tryd.underlying2 w1) (trodAll_cons_mk (Below.trod laidOut (by kernel_rfl) (of_decide_eq_true (by kernel_rfl)) k2 bel lt2) trodAll_mk0))), rfl, bel.frame _, fun h => by cases h⟩

theorem over : Rows.zoneBackRow.holds Tryd.pinned (OpenSpec.ofChange Rows.zoneBackSpec) :=
  OpenClaim.holds_of_wide 6 Tryd.f6 rfl rfl rfl rfl rfl rfl rfl ⟨rfl, rfl, rfl, rfl, rfl⟩ rfl rfl rfl rfl rfl (by kernel_rfl) Tryd.func6 (by kernel_rfl)
    (of_decide_eq_true (by kernel_rfl)) (by unfold Func.isWrapper; first | (rw [if_pos (by decide +kernel)]; kernel_rfl) | (rw [if_neg (by decide +kernel)]; exact ⟨rfl, rfl⟩))
    (fun os started H enc _ => lifted os started H enc)

/-- THE STATEMENT: the tied card. -/
theorem proved : Rows.ZoneBackCardSaid :=
  Claim7.holds_tied_plain_at .later [] [.data] true (true, "598fa7c97f9bcc6bfa52f15ac2d0c4a1a86a6cf3f90ae27a0641c6454f32c135") false
    over (fun _ h => by cases h) (by kernel_rfl) (fun _ h => by cases h) zoneBack_row_tie rfl ⟨rfl, rfl⟩ (by kernel_rfl) rfl
    (fun f fn hf hfn => by
      obtain rfl : f = 6 := Option.some.inj ((show Tryd.prog.funcNamed "kilowatt/kilowattlaw07.ZoneBack" = some 6 by kernel_rfl).symm.trans hf) |>.symm
      obtain rfl : fn = Tryd.f6 := (Option.some.inj (Tryd.func6.symm.trans hfn)).symm
      exact ⟨by kernel_rfl, fun j t ht => by
        rw [Tryd.params6] at ht
        have hm : t ∈ [24, 2, 44] := by simpa using Array.mem_of_getElem? ht
        have hall : ([24, 2, 44].all fun u => !Tryd.prog.wantsStandIn u) = true := by kernel_rfl
        exact (show Tryd.prog.wantsStandIn t = false by simpa using List.all_eq_true.1 hall t hm)⟩)
    (by kernel_rfl)
#print axioms proved
end Go.Proofs.YtobnlcmamnoefaaDoor.zoneBack
