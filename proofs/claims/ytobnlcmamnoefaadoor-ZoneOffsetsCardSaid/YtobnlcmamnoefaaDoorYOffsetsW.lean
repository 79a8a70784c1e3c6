/- The walk of the statement ZoneOffsets, whole. -/
import Derived.Test.YtobnlcmamnoefaaDoorYOB
import Derived.Test.YtobnlcmamnoefaaDoorYOC
set_option linter.unusedVariables false
set_option linter.unusedSimpArgs false
namespace Go.Proofs.YtobnlcmamnoefaaDoor
open Go.RowKit Go.Shelf
theorem zoneOffsets_any (off : Int) (a : Option Addr) (len cap : Nat) (R : Nat → Rl) (yr t : Int) (w : World) (hT : Tabs w) (w0 : In64 off ∧ RulesAt w.heap.size w a len R) (w1 : (Lit.int .i64 yr).wf = true) (w2 : (Lit.int .i64 t).wf = true) :
    Calls Tryd.prog 3 #[zoneV off a len cap, .int .i64 yr, .int .i64 t] w fun e w' => e = .returned (.bool true) ∧ Below w.heap.size w w' := by
  have hR := w0.2
  have hy0 := in64_of w1
  have ht0 := in64_of w2
  by_cases hl : len ≤ 100
  · by_cases hz : ZoneIs off R len
    · by_cases hO : OffIs off R len t
      · have hx := offT_x off R len t
        have hNb := xOf_bounds hz (yearI (t + off)) (t + off)
        obtain ⟨⟨o1, o2⟩, o3⟩ := id hO
        have o4 : t + offT off R len t < 253402300800 := o3
        obtain ⟨y, m, d, hd⟩ := date_exists ((t + offT off R len t) / 86400) (by omega) (by omega)
        by_cases hN : xOf R len (yearI (t + off)) (t + off) = 0
        · rcases rule_cases R len yr with ⟨k, hk, hi, hy⟩ | hi
          · exact offsets_r0 off yr t a len cap R w hR hT ht0 hz k hk hi hy hO _ rfl hN _ rfl y m d hd
          · exact offsets_n0 off yr t a len cap R w hR hT ht0 hz hi hO _ rfl hN _ rfl y m d hd
        · rcases rule_cases R len yr with ⟨k, hk, hi, hy⟩ | hi
          · exact offsets_r1 off yr t a len cap R w hR hT ht0 hz k hk hi hy hO _ rfl hN _ rfl y m d hd
          · exact offsets_n1 off yr t a len cap R w hR hT ht0 hz hi hO _ rfl hN _ rfl y m d hd
      · rcases rule_cases R len yr with ⟨k, hk, hi, hy⟩ | hi
        · exact offsets_rn off yr t a len cap R w hR hT ht0 hz k hk hi hy hO
        · exact offsets_nn off yr t a len cap R w hR hT ht0 hz hi hO
    · exact offsets_bad off yr t a len cap R w hR hT hy0 ht0 hl hz
  · exact offsets_many off yr t a len cap R w hR hT hy0 ht0 (by omega)
end Go.Proofs.YtobnlcmamnoefaaDoor
