/- The contract of Text. -/
import Derived.Test.YtmbimnphdhmapaaDoorDStrs
import Derived.Test.YtmbimnphdhmapaaDoorDOwn
import Derived.Test.YtmbimnphdhmapaaDoorBRegL
set_option linter.unusedVariables false
set_option linter.unusedSimpArgs false
namespace Go.Proofs.YtmbimnphdhmapaaDoor
open Go.RowKit Go.Shelf
/-- The texts of the first switches. -/
def firsts (L : Nat → Sw) (k : Nat) : List (List UInt8) := (List.range k).map fun i => swL (L i)
theorem firsts_len (L : Nat → Sw) (k : Nat) : (firsts L k).length = k := by simp [firsts]
theorem firsts_succ (L : Nat → Sw) (k : Nat) : firsts L (k + 1) = firsts L k ++ [swL (L k)] := by simp [firsts, List.range_succ]
def swsOf (L : Nat → Sw) (len : Nat) : List Sw := (List.range len).map L
theorem text_firsts (L : Nat → Sw) (len : Nat) : textL (swsOf L len) = Lib.join (firsts L len) [32] := by
  unfold textL swsOf firsts
  rw [List.map_map]; rfl
theorem sw_bytes (m b : Int) : ((⟨(Lib.itoa m).toArray⟩ : ByteArray) ++ ⟨#[58]⟩) ++ ⟨(Lib.itoa b).toArray⟩ = ⟨(swL ⟨m, b⟩).toArray⟩ := by
  apply ByteArray.ext
  apply Array.toList_inj.1
  simp [swL]
theorem itoa_small (n : Int) (h : 0 ≤ n) (h' : n < 10000) : (Lib.itoa n).length ≤ 4 := by
  obtain ⟨u, rfl⟩ : ∃ u : Nat, n = (u : Int) := ⟨n.toNat, by omega⟩
  rw [Lib.itoa_nonneg]
  exact dec_len 3 u (by omega)
theorem join_le : ∀ (xs : List (List UInt8)), (∀ x ∈ xs, x.length ≤ 9) → (Lib.join xs [32]).length ≤ xs.length * 10
  | [], _ => by simp [Lib.join_nil]
  | [x], h => by rw [Lib.join_one]; have := h x (by simp); simp; omega
  | x :: y :: r, h => by
    rw [join_two]
    have h1 := h x (by simp)
    have h2 := join_le (y :: r) (fun z hz => h z (List.mem_cons_of_mem _ hz))
    simp at h2 ⊢
    omega
theorem min_of {L : Nat → Sw} {n : Nat} (h : PlanIs L n) : ∀ i, i < n → 0 ≤ (L i).m
  | 0, _ => by rw [h.2.2.1]; exact Int.le_refl _
  | i + 1, hi => by
    have h1 := min_of h i (by omega)
    have h2 := (h.2.2.2 (i + 1) hi).2.2.2 (by omega)
    rw [Nat.add_sub_cancel] at h2
    omega
theorem firsts_le {L : Nat → Sw} {n : Nat} (h : PlanIs L n) : ∀ x ∈ firsts L n, x.length ≤ 9 := by
  intro x hx
  obtain ⟨i, hi, rfl⟩ := List.mem_map.1 hx
  have hi := List.mem_range.1 hi
  have h0 := min_of h i hi
  obtain ⟨h1, h2, h3, _⟩ := h.2.2.2 i hi
  have e1 := itoa_small (L i).m h0 (by omega)
  have e2 := itoa_small (L i).b h1 (by omega)
  unfold swL
  simp
  omega
/-- Joined. -/
theorem join_any (a : Option Addr) (c : Nat) (xs : List (List UInt8)) (w : World) {base : Nat} (h : OwnL base w (.slice a xs.length c) xs) (hne : 0 < xs.length) (hl : xs.length ≤ 1000) (hx : ∀ x ∈ xs, x.length ≤ 9) :
    Calls Tryd.prog 19 #[.slice a xs.length c, .string ⟨#[32]⟩] w fun e w' => e = .returned (strL (Lib.join xs [32])) ∧ Below w.heap.size w w' := by
  obtain ⟨g, rfl, hg, hc, hcell⟩ := h.cells hne
  have e1 : (xs.map fun l => (⟨l.toArray⟩ : ByteArray)).map (·.data.toList) = xs := by rw [List.map_map]; exact (List.map_congr_left (fun _ _ => rfl)).trans (List.map_id xs)
  have hj := strings_Join g 0 c (xs.map fun l => (⟨l.toArray⟩ : ByteArray)) ⟨#[32]⟩ w (fun j x hx => by
    rw [List.getElem?_map] at hx
    cases hq : xs[j]? with
    | none => rw [hq] at hx; cases hx
    | some y => rw [hq] at hx; cases hx; exact hcell j y hq) hg (by simp; omega) (by simpa using hc) (by rw [e1]; have := join_le xs hx; show (Lib.join xs [32]).length ≤ _; omega)
  rw [e1] at hj
  simp only [List.length_map] at hj
  exact hj
set_option maxRecDepth 100000 in
set_option maxHeartbeats 2000000 in
theorem text_no (a : Option Addr) (len cap : Nat) (L : Nat → Sw) (hno : ¬ PlanIs L len) (w : World) (hA : SwsAt w.heap.size w a len L) (hlm : len ≤ maxLen) :
    Calls Tryd.prog 6 #[.slice a len cap] w fun e w' => e = .returned (.tuple #[.string ⟨#[]⟩, .int .i64 90]) ∧ Below w.heap.size w w' := by
  have hck := checkPlan_any a len cap L w hA hlm
  rw [pErr_no hno] at hck
  have HCK := Lib.hid hck
  clear hA hlm hno hck
  go_enter Tryd.func6, Tryd.ntmps6
  go_wp2_with fail
  refine HCK.out.mono ?_
  rintro e w1 ⟨rfl, hB1⟩
  have HB1 := Lib.hid hB1
  clear hB1
  go_wp2
  go_ret2
  exact ⟨rfl, HB1.out⟩
set_option maxRecDepth 100000 in
set_option maxHeartbeats 8000000 in
theorem text_yes (a : Option Addr) (len cap : Nat) (L : Nat → Sw) (hyes : PlanIs L len) (w : World) (hT : TabsD w) (hA : SwsAt w.heap.size w a len L) (hlm : len ≤ maxLen) :
    Calls Tryd.prog 6 #[.slice a len cap] w fun e w' => e = .returned (.tuple #[strL (textL (swsOf L len)), .int .i64 0]) ∧ Below w.heap.size w w' := by
  have hck := checkPlan_any a len cap L w hA hlm
  rw [pErr_yes hyes] at hck
  have HCK := Lib.hid hck
  have HY := Lib.hid hyes
  have HA := Lib.hid hA
  have HT := Lib.hid hT
  have HMX := Lib.hid (show Tryd.prog.follows .mixedOrders = true by kernel_rfl)
  have hl1 := hyes.1
  have hl2 := hyes.2.1
  clear hA hlm hyes hck hT
  go_enter Tryd.func6, Tryd.ntmps6
  go_wp2_with fail
  refine HCK.out.mono ?_
  rintro e w1 ⟨rfl, hB1⟩
  have HB1 := Lib.hid hB1
  clear hB1
  go_wp2_with fail
  go_loopw [4, 12] (fun v i wr => ∃ k : Nat, k ≤ len ∧ i = .int .i64 k ∧ OwnL w.heap.size wr v (firsts L k) ∧ Below w.heap.size w wr) (fun _ i _ => (len - intOf i).toNat)
  case atStart => exact ⟨0, Nat.zero_le _, rfl, OwnL.nil _ _, HB1.out⟩
  case round =>
    obtain ⟨k, hk, rfl, hO, hb⟩ := hrel
    obtain ⟨va, vc, rfl⟩ := hO.form
    rw [firsts_len] at hO ⊢
    have HB := Lib.hid hb
    have HO := Lib.hid hO
    clear hb hO
    by_cases hlt : k < len
    · have hlti : (k : Int) < len := by omega
      obtain ⟨bb, o, rfl, hbl, c0, c1⟩ := HA.out.next HB.out (Nat.le_refl _) (Nat.le_refl _) k hlt
      have HR := Lib.hid (HY.out.2.2.2 k hlt)
      have HM0 := Lib.hid (min_of HY.out k hlt)
      obtain ⟨⟨m, b⟩, hmb⟩ : ∃ r, L k = r := ⟨_, rfl⟩
      have HSU := Lib.hid (firsts_succ L k)
      have hR := HR.out
      unfold SwOk at hR
      have hM0 := HM0.out
      rw [hmb] at c0 c1 HSU hR hM0
      simp only at c0 c1 hM0 hR
      have HM64 : Hid (I64 m) := Lib.hid (by unfold I64; omega)
      have HB64 : Hid (I64 b) := Lib.hid (by unfold I64; omega)
      have HLM := Lib.hid (itoa_small m hM0 (by omega))
      have HLB := Lib.hid (itoa_small b hR.1 (by omega))
      have hbl' : bb < wr.heap.size := by have := HB.out.size; omega
      have hyb := heap_alloc_new wr (.cells #[.int .i64 m, .int .i64 b] 39)
      have HYW0 := HB.out.alloc HB.out.size (.cells #[.int .i64 m, .int .i64 b] 39)
      have HYO0 := HO.out.below ((Below.refl _ wr).alloc (Nat.le_refl _) (.cells #[.int .i64 m, .int .i64 b] 39)) (Nat.le_refl _)
      have HYZ0 : (wr.alloc (.cells #[.int .i64 m, .int .i64 b] 39)).heap.size = wr.heap.size + 1 := World.size_alloc _ _
      have HNB : Hid ((Value.slice va k vc).ownBlock ≠ some wr.heap.size) := Lib.hid (fun e => by have := (HO.out.row _ e).2; omega)
      have HYS0 : w.heap.size ≤ (wr.alloc (.cells #[.int .i64 m, .int .i64 b] 39)).heap.size := HYW0.size
      clear hR hM0 HR HM0 hmb
      go_wp2_with fail
      obtain ⟨Y, hY⟩ : ∃ Y, wr.alloc (.cells #[.int .i64 m, .int .i64 b] 39) = Y := ⟨_, rfl⟩
      rw [hY] at hyb HYW0 HYO0 HYZ0 HYS0 ⊢
      have HYB := Lib.hid hyb
      have HYW := Lib.hid HYW0
      have HYO := Lib.hid HYO0
      have HYZ := Lib.hid HYZ0
      have HYS := Lib.hid HYS0
      clear hyb HYW0 HYO0 HYZ0 HYS0 hY c0 c1
      refine regionL (fun W => W.heap[wr.heap.size]? = some (.cells #[.int .i64 m, .int .i64 b] 39 (0, 0))) 11 HMX.out ?_
      have y0 : Y.drew.heap[wr.heap.size]? = some (.cells #[.int .i64 m, .int .i64 b] 39 (0, 0)) := HYB.out
      refine takeL (i := 0) (oi := { dst := some 16, op := Go.Op.move (Go.Operand.tmp 4), type := 37, pos := "bands.go:120", after := #[], guard := none }) (v := .slice va k vc) [11] rfl (by kernel_rfl) (by kernel_rfl) (by kernel_rfl) (by kernel_rfl) (fun _ _ _ h => calm_panic h) rfl ?_ y0 ?_
      · intro W hW
        (try dsimp only at hW)
        have q0 : W.cell? ⟨wr.heap.size, 0, none⟩ = some (.int .i64 m) := cell_of_row _ _ 0 _ _ _ hW
        have q1 : W.cell? ⟨wr.heap.size, 1, none⟩ = some (.int .i64 b) := cell_of_row _ _ 1 _ _ _ hW
        go_simp
      simp only [Act.put, List.setIfInBounds_toArray, List.set_cons_zero, List.set_cons_succ]
      refine takeL (i := 1) (oi := { dst := some 17, op := Go.Op.fieldAddr 39 (Go.Operand.tmp 6) 0, type := 0, pos := "bands.go:120", after := #[], guard := none }) (v := .pointer (some ⟨wr.heap.size, 0, none⟩)) [11] rfl (by kernel_rfl) (by kernel_rfl) (by kernel_rfl) (by kernel_rfl) (fun _ _ _ h => calm_panic h) rfl ?_ y0 ?_
      · intro W hW
        (try dsimp only at hW)
        have q0 : W.cell? ⟨wr.heap.size, 0, none⟩ = some (.int .i64 m) := cell_of_row _ _ 0 _ _ _ hW
        have q1 : W.cell? ⟨wr.heap.size, 1, none⟩ = some (.int .i64 b) := cell_of_row _ _ 1 _ _ _ hW
        go_simp
      simp only [Act.put, List.setIfInBounds_toArray, List.set_cons_zero, List.set_cons_succ]
      refine takeL (i := 2) (oi := { dst := some 18, op := Go.Op.load 3 (Go.Operand.tmp 17), type := 3, pos := "bands.go:120", after := #[{ on := 1, ground := Go.Ground.data }], guard := none }) (v := .int .i64 m) [11] rfl (by kernel_rfl) (by kernel_rfl) (by kernel_rfl) (by kernel_rfl) (fun _ _ _ h => calm_panic h) rfl ?_ y0 ?_
      · intro W hW
        (try dsimp only at hW)
        have q0 : W.cell? ⟨wr.heap.size, 0, none⟩ = some (.int .i64 m) := cell_of_row _ _ 0 _ _ _ hW
        have q1 : W.cell? ⟨wr.heap.size, 1, none⟩ = some (.int .i64 b) := cell_of_row _ _ 1 _ _ _ hW
        go_simp
      simp only [Act.put, List.setIfInBounds_toArray, List.set_cons_zero, List.set_cons_succ]
      refine takeL (i := 5) (oi := { dst := some 21, op := Go.Op.fieldAddr 39 (Go.Operand.tmp 6) 1, type := 0, pos := "bands.go:120", after := #[], guard := none }) (v := .pointer (some ⟨wr.heap.size, 1, none⟩)) [11] rfl (by kernel_rfl) (by kernel_rfl) (by kernel_rfl) (by kernel_rfl) (fun _ _ _ h => calm_panic h) rfl ?_ y0 ?_
      · intro W hW
        (try dsimp only at hW)
        have q0 : W.cell? ⟨wr.heap.size, 0, none⟩ = some (.int .i64 m) := cell_of_row _ _ 0 _ _ _ hW
        have q1 : W.cell? ⟨wr.heap.size, 1, none⟩ = some (.int .i64 b) := cell_of_row _ _ 1 _ _ _ hW
        go_simp
      simp only [Act.put, List.setIfInBounds_toArray, List.set_cons_zero, List.set_cons_succ]
      refine takeL (i := 6) (oi := { dst := some 22, op := Go.Op.load 3 (Go.Operand.tmp 21), type := 3, pos := "bands.go:120", after := #[{ on := 5, ground := Go.Ground.data }], guard := none }) (v := .int .i64 b) [11] rfl (by kernel_rfl) (by kernel_rfl) (by kernel_rfl) (by kernel_rfl) (fun _ _ _ h => calm_panic h) rfl ?_ y0 ?_
      · intro W hW
        (try dsimp only at hW)
        have q0 : W.cell? ⟨wr.heap.size, 0, none⟩ = some (.int .i64 m) := cell_of_row _ _ 0 _ _ _ hW
        have q1 : W.cell? ⟨wr.heap.size, 1, none⟩ = some (.int .i64 b) := cell_of_row _ _ 1 _ _ _ hW
        go_simp
      simp only [Act.put, List.setIfInBounds_toArray, List.set_cons_zero, List.set_cons_succ]
      refine oneL (i := 3) (o := { dst := some 19, op := Go.Op.call { callee := Go.Callee.value (Go.Operand.func 18), args := #[Go.Operand.tmp 18], argTypes := #[3] }, type := 9, pos := "bands.go:120", after := #[{ on := 2, ground := Go.Ground.data }], guard := none }) rfl (by kernel_rfl) rfl ?_
      refine wp_by_call (f := 18) (args := #[.int .i64 m]) (by simp [execOp, go_sem]) ?_
      refine (itoa_any m HM64.out Y.drew (HT.out.next HYW.out.drew (Nat.le_refl _))).mono ?_
      rintro e w2 ⟨rfl, hB2'⟩
      have hB2 : Below Y.heap.size Y w2 := ⟨hB2'.os, hB2'.tape, hB2'.output, hB2'.size, hB2'.block⟩
      clear hB2'
      have H2 := Lib.hid (HYW.out.trans (hB2.mono HYS.out))
      have y2 := (hB2.block wr.heap.size (by show wr.heap.size < Y.heap.size; rw [HYZ.out]; omega)).trans y0
      have S2 := Lib.hid (show Y.heap.size ≤ w2.heap.size from hB2.size)
      have O2 := Lib.hid (HYO.out.below hB2 (Nat.le_refl _))
      clear hB2
      refine ⟨_, rfl, fun _ => y2, ?_⟩
      simp only [Act.put, List.setIfInBounds_toArray, List.set_cons_zero, List.set_cons_succ]
      refine takeL (i := 4) (oi := { dst := some 20, op := Go.Op.binOp Go.BinOp.add 9 (Go.Operand.tmp 19) (Go.Operand.const (Go.Value.string { data := #[58] })) 9, type := 9, pos := "bands.go:120", after := #[{ on := 3, ground := Go.Ground.data }], guard := none }) (v := .string ((⟨(Lib.itoa m).toArray⟩ : ByteArray) ++ ⟨#[58]⟩)) [11] rfl (by kernel_rfl) (by kernel_rfl) (by kernel_rfl) (by kernel_rfl) (fun _ _ _ h => calm_panic h) rfl ?_ y2 ?_
      · intro W hW
        (try dsimp only at hW)
        have q0 : W.cell? ⟨wr.heap.size, 0, none⟩ = some (.int .i64 m) := cell_of_row _ _ 0 _ _ _ hW
        have q1 : W.cell? ⟨wr.heap.size, 1, none⟩ = some (.int .i64 b) := cell_of_row _ _ 1 _ _ _ hW
        have hlm := HLM.out
        have hlb := HLB.out
        go_simp
        omega
      simp only [Act.put, List.setIfInBounds_toArray, List.set_cons_zero, List.set_cons_succ]
      refine oneL (i := 7) (o := { dst := some 23, op := Go.Op.call { callee := Go.Callee.value (Go.Operand.func 18), args := #[Go.Operand.tmp 22], argTypes := #[3] }, type := 9, pos := "bands.go:120", after := #[{ on := 6, ground := Go.Ground.data }, { on := 3, ground := Go.Ground.chain }], guard := none }) rfl (by kernel_rfl) rfl ?_
      refine wp_by_call (f := 18) (args := #[.int .i64 b]) (by simp [execOp, go_sem]) ?_
      refine (itoa_any b HB64.out w2 (HT.out.next H2.out (Nat.le_refl _))).mono ?_
      rintro e w3 ⟨rfl, hB3⟩
      have y3 := (hB3.block wr.heap.size (by have := S2.out; rw [HYZ.out] at this; omega)).trans y2
      have S3 := Lib.hid (Nat.le_trans S2.out hB3.size)
      have H3 := Lib.hid (H2.out.trans (hB3.mono (Nat.le_trans HYS.out S2.out)))
      have O3 := Lib.hid (O2.out.below hB3 (Nat.le_refl _))
      clear hB3 y2 y0
      refine ⟨_, rfl, fun _ => y3, ?_⟩
      simp only [Act.put, List.setIfInBounds_toArray, List.set_cons_zero, List.set_cons_succ]
      refine takeL (i := 8) (oi := { dst := some 24, op := Go.Op.binOp Go.BinOp.add 9 (Go.Operand.tmp 20) (Go.Operand.tmp 23) 9, type := 9, pos := "bands.go:120", after := #[{ on := 4, ground := Go.Ground.data }, { on := 7, ground := Go.Ground.data }], guard := none }) (v := .string (((⟨(Lib.itoa m).toArray⟩ : ByteArray) ++ ⟨#[58]⟩) ++ ⟨(Lib.itoa b).toArray⟩)) [11] rfl (by kernel_rfl) (by kernel_rfl) (by kernel_rfl) (by kernel_rfl) (fun _ _ _ h => calm_panic h) rfl ?_ y3 ?_
      · intro W hW
        (try dsimp only at hW)
        have q0 : W.cell? ⟨wr.heap.size, 0, none⟩ = some (.int .i64 m) := cell_of_row _ _ 0 _ _ _ hW
        have q1 : W.cell? ⟨wr.heap.size, 1, none⟩ = some (.int .i64 b) := cell_of_row _ _ 1 _ _ _ hW
        have hlm := HLM.out
        have hlb := HLB.out
        go_simp
        omega
      simp only [Act.put, List.setIfInBounds_toArray, List.set_cons_zero, List.set_cons_succ]
      rw [sw_bytes m b]
      refine oneL (i := 9) (o := { dst := some 25, op := Go.Op.buildSlice 37 1 #[(0, Go.Operand.tmp 24)], type := 37, pos := "bands.go:120", after := #[{ on := 8, ground := Go.Ground.data }], guard := none }) rfl (by kernel_rfl) rfl ?_
      refine wp_by_run (v := .slice (some ⟨w3.heap.size, 0, none⟩) 1 1) (w' := w3.alloc (.cells #[strL (swL ⟨m, b⟩)] 9)) (by go_simp) ?_
      have y4 := heap_old y3 (.cells #[strL (swL ⟨m, b⟩)] 9)
      have n4 : (w3.alloc (.cells #[strL (swL ⟨m, b⟩)] 9)).cell? ⟨w3.heap.size, 0, none⟩ = some (strL (swL ⟨m, b⟩)) := cell_of_row _ _ 0 _ _ _ (heap_alloc_new w3 _)
      have H4 := Lib.hid (H3.out.alloc H3.out.size (.cells #[strL (swL ⟨m, b⟩)] 9))
      have O4 := Lib.hid (O3.out.below ((Below.refl _ w3).alloc (Nat.le_refl _) (.cells #[strL (swL ⟨m, b⟩)] 9)) (Nat.le_refl _))
      have S4 : Hid ((w3.alloc (.cells #[strL (swL ⟨m, b⟩)] 9)).heap.size = w3.heap.size + 1) := Lib.hid (World.size_alloc _ _)
      have N4 := Lib.hid n4
      clear n4 y3
      refine ⟨fun _ => y4, ?_⟩
      simp only [Act.put, List.setIfInBounds_toArray, List.set_cons_zero, List.set_cons_succ]
      refine oneL (i := 10) (o := { dst := some 26, op := Go.Op.call { callee := Go.Callee.builtin Go.Builtin.append, args := #[Go.Operand.tmp 16, Go.Operand.tmp 25], argTypes := #[37, 37] }, type := 37, pos := "bands.go:120", after := #[{ on := 0, ground := Go.Ground.data }, { on := 9, ground := Go.Ground.data }, { on := 7, ground := Go.Ground.chain }], guard := none }) rfl (by kernel_rfl) rfl ?_
      refine wpR_OwnL rfl (.tmp 16) (.tmp 25) rfl w.heap.size _ (firsts L k) rfl O4.out w3.heap.size (swL ⟨m, b⟩) rfl N4.out (k + 1) (by rw [firsts_len]) (by rw [firsts_len]; omega) H4.out.size ?_
      intro a2 c2 w4 hO4 hG4
      have hrow := O4.out.row
      have H5 := Lib.hid (H4.out.trans ((Below.refl w.heap.size _).grown hG4 H4.out.size (fun r e => (hrow r e).1)))
      have y5 := (hG4.block wr.heap.size (by rw [S4.out]; have := S3.out; rw [HYZ.out] at this; omega) (fun e => HNB.out e.symm)).trans y4
      have O5 := Lib.hid hO4
      clear hG4 hO4 hrow y4
      refine ⟨fun _ => y5, ?_⟩
      simp only [Act.put, List.setIfInBounds_toArray, List.set_cons_zero, List.set_cons_succ]
      refine oneL (i := 11) (o := { dst := some 4, op := Go.Op.assign (Go.Operand.tmp 26), type := 37, pos := "bands.go:120", after := #[{ on := 10, ground := Go.Ground.data }, { on := 10, ground := Go.Ground.chain }, { on := 0, ground := Go.Ground.phase }, { on := 1, ground := Go.Ground.phase }, { on := 2, ground := Go.Ground.phase }, { on := 3, ground := Go.Ground.phase }, { on := 4, ground := Go.Ground.phase }, { on := 5, ground := Go.Ground.phase }, { on := 6, ground := Go.Ground.phase }, { on := 7, ground := Go.Ground.phase }, { on := 8, ground := Go.Ground.phase }, { on := 9, ground := Go.Ground.phase }, { on := 10, ground := Go.Ground.phase }], guard := none }) rfl (by kernel_rfl) rfl ?_
      refine wp_by_run (v := .slice a2 (k + 1) c2) (w' := w4) (by go_simp) ?_
      refine ⟨fun h => absurd rfl h, ?_⟩
      simp only [Act.put, List.setIfInBounds_toArray, List.set_cons_zero, List.set_cons_succ]
      refine doneL (by kernel_rfl) (Calm.normal ?_) _
      clear y5
      go_wp2
      go_roundw
      case rel => exact ⟨k + 1, by omega, by go_num, by rw [HSU.out]; exact O5.out, H5.out⟩
      case measure => first | (simp [intOf]; done) | (simp [intOf]; omega)
    · have hke : k = len := by omega
      subst hke
      have HJ := Lib.hid (join_any va vc (firsts L k) wr (by rw [firsts_len]; exact HO.out) (by rw [firsts_len]; omega) (by rw [firsts_len]; omega) (firsts_le HY.out))
      rw [firsts_len] at HJ
      go_wp2_with fail
      refine HJ.out.mono ?_
      rintro e w2 ⟨rfl, hB2⟩
      have HB2 := Lib.hid (HB.out.trans (hB2.mono HB.out.size))
      clear hB2
      go_wp2
      go_ret2
      rw [text_firsts]
      exact ⟨rfl, HB2.out⟩
end Go.Proofs.YtmbimnphdhmapaaDoor
