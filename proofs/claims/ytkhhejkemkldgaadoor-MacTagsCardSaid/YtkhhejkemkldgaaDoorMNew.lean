/- The contract of New. -/
import Derived.Test.YtkhhejkemkldgaaDoorMMac
import Derived.Test.YtkhhejkemkldgaaDoorMPads
import Derived.Test.YtkhhejkemkldgaaDoorMBlockOf
import Derived.Test.YtkhhejkemkldgaaDoorSScope
import Derived.Laws.EntriesVeiled
set_option linter.unusedVariables false
set_option linter.unusedSimpArgs false
namespace Go.Proofs.YtkhhejkemkldgaaDoor
open Go.RowKit Go.Shelf
attribute [local go_sem] Oper.semAt_some
/-- What stands at every round's head. -/
def NI (w : World) (M : Nat) (ks : List Int) (k : Nat) (W : World) : Prop := MacAt W M (if k = 0 then [] else pad 54 ks) [] ∧ Tabs W ∧ Below w.heap.size w W
def NX (w : World) (M : Nat) (ks : List Int) (W : World) : Prop := MacAt W M (pad 54 ks) (pad 92 ks) ∧ Tabs W ∧ Below w.heap.size w W
theorem NI.below {w : World} {M : Nat} {ks : List Int} {k : Nat} {X Y : World} {B : Nat} (h : NI w M ks k X) (hb : Below B X Y) (hB : w.heap.size ≤ B) (hM : M < B) (h1 : 1 < B) : NI w M ks k Y :=
  ⟨h.1.below hb hM, h.2.1.below h1 hb, h.2.2.trans (hb.mono hB)⟩
theorem NX.below {w : World} {M : Nat} {ks : List Int} {X Y : World} {B : Nat} (h : NX w M ks X) (hb : Below B X Y) (hB : w.heap.size ≤ B) (hM : M < B) (h1 : 1 < B) : NX w M ks Y :=
  ⟨h.1.below hb hM, h.2.1.below h1 hb, h.2.2.trans (hb.mono hB)⟩
def maskOf (k : Nat) : Nat := if k = 0 then 54 else 92
def frN (M H b' : Nat) (A : Option Addr) (l c : Nat) (ks : List Int) (k : Nat) : Act :=
  { tmps := #[.slice A l c, undef, .pointer none, .pointer (some ⟨M, 0, none⟩), .int .u8 (maskOf k), .pointer (some ⟨b', 0, none⟩), .slice A l c, .agg (nums .u8 64 (bf (keyB ks))), .func (.func 47) #[] #[.pointer (some ⟨H, 0, none⟩)], .int .u8 (maskOf k), .agg (nums .u8 64 (bf (pad (maskOf k) ks))), undef, undef, undef, undef, undef, undef, undef, undef, undef, undef, undef], defers := [] }
theorem pad_bys {n b' c : Nat} {ks : List Int} {X : World} (hks : Bytes ks) (hc : c < 256) (h : At 76 X b' (nums .u8 64 (bf (pad c ks)))) (hlt : b' < n) : Bys8 n X (.slice (some ⟨b', 0, none⟩) (pad c ks).length 64) (pad c ks) :=
  ⟨pad_bytes hks hc, .inr ⟨b', 0, 64, rfl, hlt, fun j hj => by rw [pad_length] at hj; rw [Nat.zero_add]; exact h.num j hj⟩⟩
theorem write_pad0 (M b' : Nat) (ks : List Int) (hks : Bytes ks) (hM2 : 2 ≤ M) (hne : b' ≠ M) (W : World) (hT : Tabs W) (hM : MacAt W M [] []) (hA : At 76 W b' (nums .u8 64 (bf (pad 54 ks)))) :
    Calls Tryd.prog 9 #[.pointer (some ⟨M, 0, none⟩), .slice (some ⟨b', 0, none⟩) 64 64] W fun e W' => e = .returned (.tuple #[]) ∧ MacAt W' M (pad 54 ks) [] ∧ W.grownBy W' (some M) := by
  have h := writeL_any (locI M []) [] (pad 54 ks) (some ⟨b', 0, none⟩) 64 hM2 (by rw [pad_length]; decide) (by rw [pad_length]; decide) W hT hM.inner (fun X hX => pad_bys hks (by decide) (hX.at_ hA hne) hA.lt) (pad_bytes hks (by decide))
  rw [pad_length] at h
  exact h.mono fun e W' h => ⟨h.1, MacAt.ofInner h.2.1 hM.2.1, h.2.2⟩
theorem write_pad1 (M b' : Nat) (ks : List Int) (hks : Bytes ks) (hM2 : 2 ≤ M) (hne : b' ≠ M) (W : World) (hT : Tabs W) (hM : MacAt W M (pad 54 ks) []) (hA : At 76 W b' (nums .u8 64 (bf (pad 92 ks)))) :
    Calls Tryd.prog 9 #[.pointer (some ⟨M, 73, none⟩), .slice (some ⟨b', 0, none⟩) 64 64] W fun e W' => e = .returned (.tuple #[]) ∧ MacAt W' M (pad 54 ks) (pad 92 ks) ∧ W.grownBy W' (some M) := by
  have h := writeL_any (locO M (pad 54 ks)) [] (pad 92 ks) (some ⟨b', 0, none⟩) 64 hM2 (by rw [pad_length]; decide) (by rw [pad_length]; decide) W hT hM.outer (fun X hX => pad_bys hks (by decide) (hX.at_ hA hne) hA.lt) (pad_bytes hks (by decide))
  rw [pad_length] at h
  exact h.mono fun e W' h => ⟨h.1, MacAt.ofOuter h.2.1 hM.1, h.2.2⟩
set_option maxRecDepth 100000 in
set_option maxHeartbeats 2000000 in
theorem new_any (A : Option Addr) (ks : List Int) (c : Nat) (hc : ks.length ≤ c) (hr : ks.length ≤ 100000000000) (w : World) (hT : Tabs w) (hb : Bys8 w.heap.size w (.slice A ks.length c) ks) :
    Calls Tryd.prog 16 #[.slice A ks.length c] w fun e w' => ∃ M, e = .returned (.pointer (some ⟨M, 0, none⟩)) ∧ w.heap.size ≤ M ∧ MacAt w' M (pad 54 ks) (pad 92 ks) ∧ Below w.heap.size w w' := by
  have hz := (zero_of_info zero_mac).1
  have hlt := hT.lt
  have B1 := (Below.refl _ w).alloc (Nat.le_refl _) (.cells mac0 51)
  have M1 := Lib.hid (macAt_zero (At.new 51 w mac0))
  have T1 := Lib.hid (hT.below hlt B1)
  have HO := Lib.hid (blockOf_any A ks c hc hr _ T1.out ((hb.below B1).mono B1.size))
  have HB1 := Lib.hid B1
  have HKS := Lib.hid hb.1
  have hz1 : (w.alloc (.cells mac0 51)).heap.size = w.heap.size + 1 := by simp
  clear hb B1 hT
  refine (callsIn_wide (n := 4)).1 ?_
  refine callsIn_of_wp_marks Tryd.func16 rfl trivial ?_ rfl
  simp only [Tryd.ntmps16, List.size_toArray, List.length_cons, List.length_nil, Nat.reduceAdd, Nat.reduceSub, Array.replicate_succ, Array.replicate_zero, List.push_toArray, List.append_toArray, List.nil_append, List.cons_append]
  gi_wp2
  refine wpIn_scope_straight ?_
  gi_wp2
  refine wpIn_label ?_
  gi_wp2_with (first
    | (refine ⟨trivial, ?_⟩; gi_at_call 39; refine (callsIn_wide.2 HO.out).mono ?_; rintro e w2 ⟨rfl, hB2⟩)
    | (refine ⟨trivial, ?_⟩; gi_at_call 38; refine (padsOf_in _ _ _).mono ?_; rintro e w' ⟨rfl, rfl⟩))
  have hB2s := hB2.size
  have hM3 : MacAt (w2.alloc (.cells (nums .u8 64 (bf (keyB ks))) 76)) w.heap.size [] [] := (M1.out.below hB2 (by omega)).below ((Below.refl _ w2).alloc (Nat.le_refl _) _) (by omega)
  have hK3 := At.new 76 w2 (nums .u8 64 (bf (keyB ks)))
  have hB3 : Below w.heap.size w (w2.alloc (.cells (nums .u8 64 (bf (keyB ks))) 76)) := (HB1.out.trans (hB2.mono HB1.out.size)).alloc (by omega) _
  have hT3 : Tabs (w2.alloc (.cells (nums .u8 64 (bf (keyB ks))) 76)) := (T1.out.below T1.out.lt hB2).alloc _
  have hz3 : (w2.alloc (.cells (nums .u8 64 (bf (keyB ks))) 76)).heap.size = w2.heap.size + 1 := by simp
  have hseq := pads_goes 3 (by omega) w.heap.size w2.heap.size ks HKS.out _ (by rw [hz3]; omega) (by omega) hK3
  generalize (w2.alloc (.cells (nums .u8 64 (bf (keyB ks))) 76)) = w3 at *
  have hI0 : NI w w.heap.size ks 0 w3 := ⟨hM3, hT3, hB3⟩
  clear hM3 hK3 hB3 hT3 hB2 HO M1 T1 HB1 hz
  have hlM : w.heap.size < w3.heap.size := by omega
  refine wpIn_rangeFunc_goes (n := 4) rfl (enters_of Tryd.func47 (by kernel_rfl) rfl) 1 w.heap.size 0 (padEl ks) hseq (fun k => by unfold padEl; split <;> rfl)
    (fun k W => NI w w.heap.size ks k W) (fun W => NX w w.heap.size ks W)
    (fun k X Y h hb => h.below hb (by omega) (by omega) (by omega)) (fun X Y h hb => h.below hb (by omega) (by omega) (by omega)) hI0
    (fun k a₁ W => ∃ b', a₁ = frN w.heap.size w2.heap.size b' A ks.length c ks k ∧ At 76 W b' (nums .u8 64 (bf (pad (maskOf k) ks))) ∧ w3.heap.size ≤ b')
    (fun k a₁ W l o o' ⟨b', e, hA, hlt⟩ hl ho => ⟨b', e, (World.putObj_heap_other (fun e => by subst e; rw [show W.heap[b']? = _ from hA] at hl; cases hl; cases ho)).trans hA, hlt⟩) ?assign ?go ?end_ ?stop
  case assign =>
    intro l k W K hW hk hI hK
    clear hseq hI0
    have HK := Lib.hid hK
    have HI := Lib.hid hI
    clear hK hI
    have hz := (zero_of_info zero_mblk).1
    have HA := Lib.hid (At.new 76 W (nums .u8 64 fun _ => 0))
    rcases (by omega : k = 0 ∨ k = 1) with rfl | rfl
    · rw [show padEl ks 0 = #[.int .u8 54, .agg (nums .u8 64 (bf (pad 54 ks)))] from rfl]
      gi_wp2_with (refine store_mblk_in (fun _ => trivial) HA.out rfl rfl rfl rfl ?_)
      have hg := fresh_row W 76 (nums .u8 64 fun _ => 0) (nums .u8 64 (bf (pad 54 ks)))
      exact HK.out _ _ (KeepsFrom.of_grownBy hg (fun j e => by cases e)) (KeepsC.grownNone hg) (HI.out.below (below_grown hg (Nat.le_refl _)) (by omega) (by omega) (by omega)) ⟨W.heap.size, rfl, HA.out.row, by omega⟩
    · rw [show padEl ks 1 = #[.int .u8 92, .agg (nums .u8 64 (bf (pad 92 ks)))] from rfl]
      gi_wp2_with (refine store_mblk_in (fun _ => trivial) HA.out rfl rfl rfl rfl ?_)
      have hg := fresh_row W 76 (nums .u8 64 fun _ => 0) (nums .u8 64 (bf (pad 92 ks)))
      exact HK.out _ _ (KeepsFrom.of_grownBy hg (fun j e => by cases e)) (KeepsC.grownNone hg) (HI.out.below (below_grown hg (Nat.le_refl _)) (by omega) (by omega) (by omega)) ⟨W.heap.size, rfl, HA.out.row, by omega⟩
  case go =>
    rintro l k a₁ W hW hk hI ⟨b', rfl, hA, hb'⟩
    clear hseq hI0
    obtain rfl : k = 0 := by omega
    have HC := Lib.hid (write_pad0 w.heap.size b' ks HKS.out (by omega) (by omega) W hI.2.1 hI.1 hA)
    have HI := Lib.hid hI
    clear hI hA
    unfold frN
    rw [show maskOf 0 = 54 from rfl]
    gi_wp2_with (refine ⟨trivial, ?_⟩; gi_at_call 9; refine (CallsIn.inRound l (callsIn_wide.2 HC.out)).mono ?_; rintro e W' ⟨rfl, hX, hG⟩)
    exact ⟨KeepsFrom.of_grownBy hG (fun j e => by injection e; omega), KeepsC.grown hG, hX, HI.out.2.1.grown hG (by omega), HI.out.2.2.trans (grown_below hG (Nat.le_refl _) (by omega))⟩
  case end_ =>
    rintro l a₁ W hW hI ⟨b', rfl, hA, hb'⟩
    clear hseq hI0
    have HC := Lib.hid (write_pad1 w.heap.size b' ks HKS.out (by omega) (by omega) W hI.2.1 hI.1 hA)
    have HI := Lib.hid hI
    clear hI hA
    unfold frN
    rw [show maskOf 1 = 92 from rfl]
    gi_wp2_with (refine ⟨trivial, ?_⟩; gi_at_call 9; refine (CallsIn.inRound l (callsIn_wide.2 HC.out)).mono ?_; rintro e W' ⟨rfl, hX, hG⟩)
    exact ⟨rfl, KeepsFrom.of_grownBy hG (fun j e => by injection e; omega), hX, HI.out.2.1.grown hG (by omega), HI.out.2.2.trans (grown_below hG (Nat.le_refl _) (by omega))⟩
  case stop =>
    intro D W hD hI hK
    have HI := Lib.hid hI
    have HK := Lib.hid hK
    clear hI hK hseq hI0
    gi_wp2
    have hfin : ∀ X, Below w3.heap.size W X → NX w w.heap.size ks X := fun X hX => HI.out.below hX (by omega) (by omega) (by omega)
    rw [Exit.noGoto_ret]
    refine ⟨by simp, .inl ⟨_, _, rfl, run_takeDeferred HK.out, ?_⟩⟩
    have hx := hfin (W.putObj D (.deferred none)) ⟨rfl, rfl, rfl, by simp, fun j hj => World.putObj_heap_other (by omega)⟩
    exact ⟨_, results_tmp rfl _ _ _, w.heap.size, rfl, Nat.le_refl _, hx.1, hx.2.2⟩
end Go.Proofs.YtkhhejkemkldgaaDoor
