/- The contract of rounds: 64 rounds over a state. -/
import Derived.Test.YtkhhejkemkldgaaDoorSRow
import Derived.Deep.QuietTactic
import Derived.BigQuiet
import Derived.WalkSmall
set_option linter.unusedVariables false
namespace Go.Proofs.YtkhhejkemkldgaaDoor
open Go.RowKit
/-- A block of just these cells, of whatever mark. -/
def Tab (w : World) (b : Nat) (cs : Array Value) : Prop := ∃ T fr, w.heap[b]? = some (.cells cs T fr)
theorem Tab.lt {w : World} {b : Nat} {cs : Array Value} : Tab w b cs → b < w.heap.size | ⟨_, _, h⟩ => (Array.getElem?_eq_some_iff.1 h).1
theorem Tab.of {w w' : World} {b : Nat} {cs : Array Value} (e : w'.heap[b]? = w.heap[b]?) : Tab w b cs → Tab w' b cs | ⟨T, fr, h⟩ => ⟨T, fr, e.trans h⟩
theorem Tab.num {w : World} {b : Nat} {k : IntKind} {n : Nat} {f : Nat → Int} : Tab w b (nums k n f) → ∀ j, j < n → w.cell? ⟨b, j, none⟩ = some (.int k (f j)) | ⟨T, fr, h⟩, j, hj => (cell_of_row w b j _ _ _ h).trans (nums_get k n f j hj)
/-- The tables of the package, as its text lays them. -/
def Tabs (w : World) : Prop := Tab w 0 (nums .u32 64 (wf roots)) ∧ Tab w 1 (nums .u32 8 (wf initial))
theorem Tabs.lt {w : World} (h : Tabs w) : 1 < w.heap.size := h.2.lt
theorem Tabs.below {B : Nat} {w w' : World} (h : Tabs w) (hB : 1 < B) (hb : Below B w w') : Tabs w' := ⟨h.1.of (hb.block 0 (by omega)), h.2.of (hb.block 1 hB)⟩
theorem Tabs.alloc {w : World} (h : Tabs w) (o : Obj) : Tabs (w.alloc o) := h.below (B := w.heap.size) h.lt ((Below.refl _ w).alloc (Nat.le_refl _) o)
theorem Tabs.drew {w : World} (h : Tabs w) : Tabs w.drew := h
def Eights (s : Eight) (a b c d e f g h : Value) : Prop := a = .int .u32 (s.a : Nat) ∧ b = .int .u32 (s.b : Nat) ∧ c = .int .u32 (s.c : Nat) ∧ d = .int .u32 (s.d : Nat) ∧ e = .int .u32 (s.e : Nat) ∧ f = .int .u32 (s.f : Nat) ∧ g = .int .u32 (s.g : Nat) ∧ h = .int .u32 (s.h : Nat)
theorem choose_says (e f g : Nat) (he : e < 4294967296) (hf : f < 4294967296) (hg : g < 4294967296) :
    bits .xor .u32 (bits .and .u32 (e : Int) (f : Int)) (bits .and .u32 (bits .xor .u32 (if IntKind.u32.signed = true then -1 else IntKind.u32.max) (e : Int)) (g : Int)) = ((choose e f g : Nat) : Int) := by
  rw [show (if IntKind.u32.signed = true then -1 else IntKind.u32.max) = ((4294967295 : Nat) : Int) from by decide]
  rw [xor32 _ _ (by decide) he, and32 _ _ he hf, and32 _ _ (xor_lt32 (by decide) he) hg, xor32 _ _ (and_lt32 hf) (and_lt32 hg)]; rfl
theorem major_says (a b c : Nat) (ha : a < 4294967296) (hb : b < 4294967296) (hc : c < 4294967296) :
    bits .xor .u32 (bits .xor .u32 (bits .and .u32 (a : Int) (b : Int)) (bits .and .u32 (a : Int) (c : Int))) (bits .and .u32 (b : Int) (c : Int)) = ((major a b c : Nat) : Int) := by
  rw [and32 _ _ ha hb, and32 _ _ ha hc, and32 _ _ hb hc, xor32 _ _ (and_lt32 hb) (and_lt32 hc), xor32 _ _ (xor_lt32 (and_lt32 hb) (and_lt32 hc)) (and_lt32 hc)]; rfl
theorem turn_a (s : Eight) (k w : Nat) : (((s.h : Int) + (high1 s.e : Nat) + (choose s.e s.f s.g : Nat) + (k : Int) + (w : Int)) % 4294967296 + ((high0 s.a : Nat) + (major s.a s.b s.c : Nat)) % 4294967296) % 4294967296 = ((turn s k w).a : Nat) := by
  show _ = (((turnX s k w + turnY s) % 4294967296 : Nat) : Int)
  unfold turnX turnY; omega
theorem turn_e (s : Eight) (k w : Nat) : ((s.d : Int) + ((s.h : Int) + (high1 s.e : Nat) + (choose s.e s.f s.g : Nat) + (k : Int) + (w : Int)) % 4294967296) % 4294967296 = ((turn s k w).e : Nat) := by
  show _ = (((s.d + turnX s k w) % 4294967296 : Nat) : Int)
  unfold turnX; omega
theorem nums_list (s : Eight) : #[.int .u32 (s.a : Nat), .int .u32 (s.b : Nat), .int .u32 (s.c : Nat), .int .u32 (s.d : Nat), .int .u32 (s.e : Nat), .int .u32 (s.f : Nat), .int .u32 (s.g : Nat), .int .u32 (s.h : Nat)] = nums .u32 8 (wf s.list) := rfl
theorem roots_words : Words roots := Words.of_mem (by decide)
set_option maxRecDepth 100000 in
set_option maxHeartbeats 1000000 in
theorem rounds_any (v w0 : List Nat) (hv : Words v) (hw : Words w0) (w : World) (hT : Tabs w) :
    Calls Tryd.prog 28 #[.agg (nums .u32 8 (wf v)), .agg (nums .u32 64 (wf w0))] w fun e w' => e = .returned (.agg (nums .u32 8 (wf (turns (Eight.of v) w0 64).list))) ∧ Below w.heap.size w w' := by
  have hz := (zero_of_info zero_state).1
  have HV := Lib.hid hv
  have HW := Lib.hid hw
  have HT := Lib.hid hT
  have b1 := (At.new 27 w (nums .u32 8 (wf v))).alloc (.cells (nums .u32 64 (wf w0)) 64)
  have b2 := At.new 64 (w.alloc (.cells (nums .u32 8 (wf v)) 27)) (nums .u32 64 (wf w0))
  rw [World.size_alloc] at b2
  have c0 := (b1.alloc (.cells (nums .u32 8 fun _ => 0) 27)).num 0 (by decide)
  have c1 := (b1.alloc (.cells (nums .u32 8 fun _ => 0) 27)).num 1 (by decide)
  have c2 := (b1.alloc (.cells (nums .u32 8 fun _ => 0) 27)).num 2 (by decide)
  have c3 := (b1.alloc (.cells (nums .u32 8 fun _ => 0) 27)).num 3 (by decide)
  have c4 := (b1.alloc (.cells (nums .u32 8 fun _ => 0) 27)).num 4 (by decide)
  have c5 := (b1.alloc (.cells (nums .u32 8 fun _ => 0) 27)).num 5 (by decide)
  have c6 := (b1.alloc (.cells (nums .u32 8 fun _ => 0) 27)).num 6 (by decide)
  have c7 := (b1.alloc (.cells (nums .u32 8 fun _ => 0) 27)).num 7 (by decide)
  have H2 := Lib.hid (b2.alloc (.cells (nums .u32 8 fun _ => 0) 27))
  clear hv hw b1 b2 hT
  go_enter Tryd.func28, Tryd.ntmps28
  go_wp2
  go_quiet (fail)
  have H2' := Lib.hid (H2.out.drewN nq)
  go_wp2_with (refine load_schedule H2'.out rfl rfl rfl ?_)
  go_loopw [5, 6, 7, 8, 9, 10, 11, 12, 34] (fun a b c d e f g h i wr => ∃ k : Nat, k ≤ 64 ∧ i = .int .i64 k ∧ Eights (turns (Eight.of v) w0 k) a b c d e f g h ∧ At 27 wr (w.heap.size + 1 + 1) (nums .u32 8 fun _ => 0) ∧ Below w.heap.size w wr) (fun _ _ _ _ _ _ _ _ i _ => 64 - (intOf i).toNat)
  case atStart =>
    have b3 := At.new 27 ((w.alloc (.cells (nums .u32 8 (wf v)) 27)).alloc (.cells (nums .u32 64 (wf w0)) 64)) (nums .u32 8 fun _ => 0)
    simp only [World.size_alloc] at b3
    exact ⟨0, by omega, rfl, ⟨rfl, rfl, rfl, rfl, rfl, rfl, rfl, rfl⟩, b3.drewN nq, below_drewN ((((Below.refl _ w).alloc (Nat.le_refl _) _).alloc (by simp) _).alloc (by simp; omega) _) nq⟩
  case round =>
    obtain ⟨k, hk, rfl, he, h3, hB⟩ := hrel
    have hok := turns_ok HV.out.eight w0 k
    have HS : Hid (turns (Eight.of v) w0 (k + 1) = turn (turns (Eight.of v) w0 k) (roots.getD k 0) (w0.getD k 0)) := Lib.hid rfl
    generalize hs : turns (Eight.of v) w0 k = s at hok HS he
    have HQ := Lib.hid hs
    clear hs
    obtain ⟨rfl, rfl, rfl, rfl, rfl, rfl, rfl, rfl⟩ := he
    by_cases hlt : k < 64
    · have ht := (HT.out.below HT.out.lt hB).1.num k hlt
      have hi := idx_schedule (wf w0) k hlt
      have hr := roots_words k
      have hw := HW.out k
      obtain ⟨A, a0, a1, ea⟩ := cast_of hok.1
      obtain ⟨B, b0, b1, eb⟩ := cast_of hok.2.1
      obtain ⟨C, c0, c1, ec⟩ := cast_of hok.2.2.1
      obtain ⟨D, d0, d1, ed⟩ := cast_of hok.2.2.2.1
      obtain ⟨E, e0, e1, ee⟩ := cast_of hok.2.2.2.2.1
      obtain ⟨F, f0, f1, ef⟩ := cast_of hok.2.2.2.2.2.1
      obtain ⟨G, g0, g1, eg⟩ := cast_of hok.2.2.2.2.2.2.1
      obtain ⟨H, h0, h1, eh⟩ := cast_of hok.2.2.2.2.2.2.2
      obtain ⟨X, x0, x1, ex⟩ := cast_of (high1_lt hok.2.2.2.2.1)
      obtain ⟨Y, y0, y1, ey⟩ := cast_of (high0_lt hok.1)
      obtain ⟨R, r0, r1, er⟩ := cast_of hr
      obtain ⟨W, w0', w1, ew⟩ := cast_of hw
      have hc1 := fun w => high1_any s.e hok.2.2.2.2.1 w
      have hc0 := fun w => high0_any s.a hok.1 w
      rw [show wf roots k = R from er] at ht
      rw [show wf w0 k = W from ew] at hi
      rw [ee, ex] at hc1
      rw [ea, ey] at hc0
      rw [ea, eb, ec, ed, ee, ef, eg, eh]
      have Ea := Lib.hid ea
      have Eb := Lib.hid eb
      have Ec := Lib.hid ec
      have Ed := Lib.hid ed
      have Ee := Lib.hid ee
      have Ef := Lib.hid ef
      have Eg := Lib.hid eg
      have Eh := Lib.hid eh
      have Ex := Lib.hid ex
      have Ey := Lib.hid ey
      have Er := Lib.hid er
      have Ew := Lib.hid ew
      have OK := Lib.hid hok
      have H3 := Lib.hid h3
      clear ea eb ec ed ee ef eg eh ex ey er ew hok h3 hr hw
      go_wp2
      go_quiet ((go_at_call 43; exact Calls.quiet_of_same ((hc1 _).mono fun _ _ h => ⟨h.1, h.2.symm⟩)))
      go_wp2_with (go_at_call 44; refine (hc0 _).mono ?_; rintro e w' ⟨rfl, rfl⟩)
      go_roundw
      case rel =>
        have ra := Ea.out
        have rb := Eb.out
        have rc := Ec.out
        have rd := Ed.out
        have re := Ee.out
        have rf := Ef.out
        have rg := Eg.out
        have rh := Eh.out
        have rx := Ex.out
        have ry := Ey.out
        have rr := Er.out
        have rw' := Ew.out
        subst ra rb rc rd re rf rg rh rx ry rr rw'
        have h := OK.out
        refine ⟨k + 1, by omega, by go_num, ?_, H3.out.drewN _, below_drewN hB _⟩
        rw [HS.out]
        refine ⟨int_eq ?_, rfl, rfl, rfl, int_eq ?_, rfl, rfl, rfl⟩
        · rw [choose_says _ _ _ h.2.2.2.2.1 h.2.2.2.2.2.1 h.2.2.2.2.2.2.1, major_says _ _ _ h.1 h.2.1 h.2.2.1]
          exact turn_a s _ _
        · rw [choose_says _ _ _ h.2.2.2.2.1 h.2.2.2.2.2.1 h.2.2.2.2.2.2.1]
          exact turn_e s _ _
      case measure => simp [intOf]; omega
    · obtain rfl : k = 64 := by omega
      have H3 := Lib.hid h3
      clear h3 hok
      go_wp2_with (refine store_state (f := wf s.list) H3.out rfl rfl rfl (by exact congrArg Value.agg (nums_list s)) ?_)
      exact bodyPost_ret (v := .agg (nums .u32 8 (wf s.list))) (results_state rfl _ _ (w.heap.size + 1 + 1) _ rfl H3.out.row) rfl ⟨by rw [HQ.out], below_row hB (by omega) _⟩
end Go.Proofs.YtkhhejkemkldgaaDoor
