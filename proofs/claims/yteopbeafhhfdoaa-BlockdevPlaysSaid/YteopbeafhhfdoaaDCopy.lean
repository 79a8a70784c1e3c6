/- Copy. -/
import Derived.Test.YteopbeafhhfdoaaDFlush
import Derived.Lib.LazyBuf
set_option linter.unusedVariables false
set_option linter.unusedSimpArgs false
namespace Go.Proofs.Yteopbeafhhfdoaa
open Go.RowKit
/-- A row is copied. -/
def CloneE (T : TypeId) (size : Nat) (w w' : World) (v : Value) (n : Nat) (xs : List Value) (e : Ending) : Prop :=
  ∃ v', e = .returned v' ∧ w'.ownsRow 0 T size v' n xs ∧ (v = .slice none 0 0 → v' = .slice none 0 0) ∧ (∀ k, v'.ownBlock = some k → w.heap.size ≤ k) ∧ Below w.heap.size w w'
theorem own_one {w : World} {T : TypeId} {size n : Nat} {v : Value} {xs : List Value} (h : w.ownsRow 0 T size v n xs) {g c : Nat} (hv : v = .slice (some ⟨g, 0, none⟩) n c) : ∀ j u, xs[j]? = some u → w.cell? ((⟨g, 0, none⟩ : Addr).add j) = some u :=
  h.cells (by rw [hv]; rfl)
theorem append_all {w : World} {ops : Array Oper} {rest : List Oper} {o : Oper} {a : Act} {Q : Exit → Act → World → Prop} (t e : TypeId) (i : TypeInfo) (z : Value) (size bytes : Nat) (ht : Try.prog.underlying t = some (.slice e)) (hi : Try.prog.info? e = some i) (hz : i.zero = some z)
    (hsize : i.size = size) (hby : i.bytes = bytes) (hzs : z.cells.size = size) (hsz : 0 < size) (g0 : Nat) (hg0 : At e w g0 #[]) (g c n : Nat) (xs : List Value) (hown : w.ownsRow 0 e size (.slice (some ⟨g, 0, none⟩) n c) n xs) (h1 : ∀ u ∈ xs, u.oneCell' = true) (hn : n ≤ 100000) (hb : bytes ≤ 200)
    (hgd : o.guard = none) (s x : Operand) (ho : o.op = .call { callee := .builtin .append, args := #[s, x], argTypes := #[t, t] }) (hs : a.eval s = .slice (some ⟨g0, 0, none⟩) 0 0) (hx : a.eval x = .slice (some ⟨g, 0, none⟩) n c)
    (h : ∀ v' w', w'.ownsRow 0 e size v' n xs → w.grownBy w' (some g0) → (v'.ownBlock = some g0 ∨ v'.ownBlock = some w.heap.size) → wpList Try.prog ops Q rest (a.put o.dst v') w') : wpList Try.prog ops Q (o :: rest) a w := by
  have hown0 : w.ownsRow 0 e size (.slice (some ⟨g0, 0, none⟩) 0 0) 0 [] := ⟨by simp, .inr ⟨g0, 0, #[], rfl, Nat.zero_le _, hg0, Nat.le_refl _, by simp [maxLen], by simp, by simp⟩⟩
  refine wpList_append_own_at w hgd s x t ho 0 e i z size bytes ht hi hz hsize hby hzs hsz _ 0 [] hs hown0 ⟨g, 0, none⟩ n c xs hx hown.1 (fun j u hu => own_one hown rfl j u hu) h1 (by unfold maxLen; omega) ?_ (Nat.zero_le _) ?_
  · have : (0 + n) * bytes ≤ 100000 * 200 := Nat.mul_le_mul (by omega) hb
    omega
  · intro v' w' h1 h2 _ h4
    rw [Nat.zero_add, List.nil_append] at h1
    exact h v' w' h1 h2 h4

set_option maxRecDepth 100000 in
theorem clone_sec (v : Value) (n : Nat) (rows : List (List Value)) (w : World) (h : w.ownsRow 0 72 128 v n rows.flatten) (h1 : ∀ r ∈ rows, ∀ u ∈ r, u.oneCell' = true) (hn : n ≤ 100000) :
    Calls Try.prog 30 #[v] w fun e w' => CloneE 72 128 w w' v n rows.flatten e := by
  have hall : ∀ u ∈ rows.flatten, u.oneCell' = true := fun u hu => by
    obtain ⟨r, hr, hur⟩ := List.mem_flatten.1 hu
    exact h1 r hr u hur
  obtain ⟨i, hi, hz, hs, hb⟩ := sec_parts
  unfold CloneE
  have en0 : ∀ w, (binOp .eql 58 (.slice none 0 0) (.slice none 0 0)).run Try.prog w = .ok (.bool true) w := fun w => run_eql_slice_nil w 58 _ none 0 0 Try.underlying58
  have en1 : ∀ (g n c : Nat) w, (binOp .eql 58 (.slice (some ⟨g, 0, none⟩) n c) (.slice none 0 0)).run Try.prog w = .ok (.bool false) w := fun g n c w => run_eql_slice_nil w 58 _ (some ⟨g, 0, none⟩) n c Try.underlying58
  rcases h.2 with ⟨rfl, rfl⟩ | ⟨g, cap, cur, rfl, hg⟩
  · have HR := Lib.hid h
    clear h h1 hall hi hz hs hb
    go_enter Try.func30, Try.ntmps30
    go_wp2
    go_ret
    exact ⟨_, rfl, HR.out, fun _ => rfl, fun k e => (by cases e), Below.refl _ _⟩
  · have HA := Lib.hid (At.new 72 w #[])
    have HO := Lib.hid (h.alloc (.cells #[] 72))
    have HB := Lib.hid ((Below.refl _ w).alloc (Nat.le_refl _) (.cells #[] 72))
    have HH := Lib.hid (And.intro hall hn)
    have HP := Lib.hid (And.intro hi (And.intro hz (And.intro hs hb)))
    have hlt : g < w.heap.size := (Array.getElem?_eq_some_iff.1 hg.2.1).1
    clear h h1 hall hn hg hi hz hs hb
    go_enter Try.func30, Try.ntmps30
    go_wp2_with (refine append_all 58 72 i _ 128 _ Try.underlying58 HP.out.1 HP.out.2.1 HP.out.2.2.1 HP.out.2.2.2 (by first | simp [Value.cells, nums_size] | rfl) (by decide) w.heap.size HA.out g cap n rows.flatten HO.out HH.out.1 HH.out.2 (by decide) rfl _ _ rfl rfl rfl ?_)
    intro v' w' q1 q2 q4
    have HR := Lib.hid (show w'.ownsRow 0 72 128 v' n rows.flatten ∧ (∀ k, v'.ownBlock = some k → w.heap.size ≤ k) ∧ Below w.heap.size w w' from by
      refine ⟨q1, fun k hk => ?_, HB.out.grown q2 (by simp) (fun r e => by cases e; exact Nat.le_refl _)⟩
      rcases q4 with e | e
      · rw [e] at hk; cases hk; exact Nat.le_refl _
      · rw [e] at hk; cases hk; simp)
    clear q1 q2 q4
    go_wp2
    go_ret
    exact ⟨_, rfl, HR.out.1, fun e => (by cases e), HR.out.2⟩

set_option maxRecDepth 100000 in
theorem clone_wr (v : Value) (n : Nat) (rows : List (List Value)) (w : World) (h : w.ownsRow 0 75 129 v n rows.flatten) (h1 : ∀ r ∈ rows, ∀ u ∈ r, u.oneCell' = true) (hn : n ≤ 100000) :
    Calls Try.prog 31 #[v] w fun e w' => CloneE 75 129 w w' v n rows.flatten e := by
  have hall : ∀ u ∈ rows.flatten, u.oneCell' = true := fun u hu => by
    obtain ⟨r, hr, hur⟩ := List.mem_flatten.1 hu
    exact h1 r hr u hur
  obtain ⟨i, hi, hz, hs, hb⟩ := wr_parts
  unfold CloneE
  have en0 : ∀ w, (binOp .eql 59 (.slice none 0 0) (.slice none 0 0)).run Try.prog w = .ok (.bool true) w := fun w => run_eql_slice_nil w 59 _ none 0 0 Try.underlying59
  have en1 : ∀ (g n c : Nat) w, (binOp .eql 59 (.slice (some ⟨g, 0, none⟩) n c) (.slice none 0 0)).run Try.prog w = .ok (.bool false) w := fun g n c w => run_eql_slice_nil w 59 _ (some ⟨g, 0, none⟩) n c Try.underlying59
  rcases h.2 with ⟨rfl, rfl⟩ | ⟨g, cap, cur, rfl, hg⟩
  · have HR := Lib.hid h
    clear h h1 hall hi hz hs hb
    go_enter Try.func31, Try.ntmps31
    go_wp2
    go_ret
    exact ⟨_, rfl, HR.out, fun _ => rfl, fun k e => (by cases e), Below.refl _ _⟩
  · have HA := Lib.hid (At.new 75 w #[])
    have HO := Lib.hid (h.alloc (.cells #[] 75))
    have HB := Lib.hid ((Below.refl _ w).alloc (Nat.le_refl _) (.cells #[] 75))
    have HH := Lib.hid (And.intro hall hn)
    have HP := Lib.hid (And.intro hi (And.intro hz (And.intro hs hb)))
    have hlt : g < w.heap.size := (Array.getElem?_eq_some_iff.1 hg.2.1).1
    clear h h1 hall hn hg hi hz hs hb
    go_enter Try.func31, Try.ntmps31
    go_wp2_with (refine append_all 59 75 i _ 129 _ Try.underlying59 HP.out.1 HP.out.2.1 HP.out.2.2.1 HP.out.2.2.2 (by first | simp [Value.cells, nums_size] | rfl) (by decide) w.heap.size HA.out g cap n rows.flatten HO.out HH.out.1 HH.out.2 (by decide) rfl _ _ rfl rfl rfl ?_)
    intro v' w' q1 q2 q4
    have HR := Lib.hid (show w'.ownsRow 0 75 129 v' n rows.flatten ∧ (∀ k, v'.ownBlock = some k → w.heap.size ≤ k) ∧ Below w.heap.size w w' from by
      refine ⟨q1, fun k hk => ?_, HB.out.grown q2 (by simp) (fun r e => by cases e; exact Nat.le_refl _)⟩
      rcases q4 with e | e
      · rw [e] at hk; cases hk; exact Nat.le_refl _
      · rw [e] at hk; cases hk; simp)
    clear q1 q2 q4
    go_wp2
    go_ret
    exact ⟨_, rfl, HR.out.1, fun e => (by cases e), HR.out.2⟩
/-- A copy. -/
def CopyE (w w' : World) (d : Dv) (e : Ending) : Prop := ∃ p', e = .returned (ptr p'.D) ∧ DevAt w' p' d ∧ (∀ k, own p' k → w.heap.size ≤ k) ∧ Below w.heap.size w w'
set_option maxRecDepth 100000 in
theorem copy_any (p : Pl) (d : Dv) (w : World) (h : DevAt w p d) : Calls Try.prog 10 #[ptr p.D] w fun e w' => CopyE w w' d e := by
  obtain ⟨a0, c0, hv0⟩ : ∃ a0 c0, p.vC = .slice a0 d.cache.length c0 := by
    rcases h.cache.2 with ⟨e, e2⟩ | ⟨g, cap, cur, e, _⟩
    · exact ⟨none, 0, by rw [e, e2]⟩
    · exact ⟨_, _, e⟩
  have HM := Lib.hid (made_any p d w h)
  have k0 : w.cell? ⟨p.D, 0, none⟩ = some (.slice (some ⟨p.S, 0, none⟩) d.safe.length p.cS) := h.dev.cell 0
  have k1 : w.cell? ⟨p.D, 1, none⟩ = some (.slice a0 d.cache.length c0) := by rw [← hv0]; exact h.dev.cell 1
  have k2 : w.cell? ⟨p.D, 2, none⟩ = some (.func (.func 46) #[] #[.pointer (some ⟨p.B1, 0, none⟩), .pointer (some ⟨p.B2, 0, none⟩)]) := h.dev.cell 2
  have k3 : w.cell? ⟨p.D, 3, none⟩ = some (.int .i64 d.calls) := h.dev.cell 3
  have k4 : w.cell? ⟨p.D, 4, none⟩ = some (.bool d.down) := h.dev.cell 4
  obtain ⟨W1, hW1⟩ : ∃ W1, W1 = w.alloc (.cells #[.slice (some ⟨p.S, 0, none⟩) d.safe.length p.cS, .slice a0 d.cache.length c0, .func (.func 46) #[] #[.pointer (some ⟨p.B1, 0, none⟩), .pointer (some ⟨p.B2, 0, none⟩)], .int .i64 d.calls, .bool d.down] 62) := ⟨_, rfl⟩
  have b1 : Below w.heap.size w W1 := by rw [hW1]; exact (Below.refl _ w).alloc (Nat.le_refl _) _
  have hA1 : At 62 W1 w.heap.size #[.slice (some ⟨p.S, 0, none⟩) d.safe.length p.cS, .slice a0 d.cache.length c0, .func (.func 46) #[] #[.pointer (some ⟨p.B1, 0, none⟩), .pointer (some ⟨p.B2, 0, none⟩)], .int .i64 d.calls, .bool d.down] := by rw [hW1]; exact At.new _ w _
  have h1 : DevAt W1 p d := h.below b1
  have s1 : W1.heap.size = w.heap.size + 1 := by rw [hW1, World.size_alloc]
  have m0 : W1.cell? ⟨p.D, 0, none⟩ = some (.slice (some ⟨p.S, 0, none⟩) d.safe.length p.cS) := h1.dev.cell 0
  have hfull : d.cache.length ≤ 256 := h.ok.full
  have hmost := h.ok.most
  have hC1 := clone_sec _ _ (d.safe.map vals8) W1 h1.safe (fun r hr => by obtain ⟨L, _, rfl⟩ := List.mem_map.1 hr; exact vals8_one L) (by omega)
  have HC1 := Lib.hid hC1
  have H := Lib.hid h
  have HW1 := Lib.hid (And.intro b1 (And.intro hA1 (And.intro h1 s1)))
  have HV := Lib.hid hv0
  have HE := Lib.hid hW1
  have HN := Lib.hid (And.intro hfull hmost)
  rw [hW1] at m0
  clear h b1 hA1 h1 s1 hC1 hv0 hW1 hfull hmost
  go_enter Try.func10, Try.ntmps10
  go_wp2_with (first | (go_at_call 29; refine HM.out.mono ?_; rintro e w' ⟨rfl, rfl⟩) | fail)
  rw [← HE.out]
  clear m0
  refine HC1.out.mono ?_
  rintro e W2 ⟨vS, rfl, hoS, hnS, hfS, hb2⟩
  obtain ⟨b1, hA1, h1, s1⟩ := HW1.out
  have hsz2 := hb2.size
  obtain ⟨g, cS, hvS⟩ : ∃ g cS, vS = .slice (some ⟨g, 0, none⟩) d.safe.length cS := by
    rcases hoS.2 with ⟨e, e2⟩ | ⟨g, cap, cur, e, _⟩
    · have := H.out.ok.pos; omega
    · exact ⟨g, cap, e⟩
  subst hvS
  have hg : w.heap.size + 1 ≤ g := by have := hfS g rfl; omega
  have hA2 : At 62 W2 w.heap.size _ := hA1.below (by omega) hb2
  have h2 : DevAt W2 p d := h1.below hb2
  have f0 := hA2.free 0
  have e0 : W2.cell? ⟨w.heap.size, 0, none⟩ = some (.slice (some ⟨p.S, 0, none⟩) d.safe.length p.cS) := hA2.cell 0
  obtain ⟨W3, hW3⟩ : ∃ W3, W3 = W2.setCell ⟨w.heap.size, 0, none⟩ (.slice (some ⟨g, 0, none⟩) d.safe.length cS) := ⟨_, rfl⟩
  have hu3 : Upd (fun k => k = w.heap.size) W2 W3 := by rw [hW3]; exact (Upd.refl (fun k => k = w.heap.size) W2).setCell (p := ⟨w.heap.size, 0, none⟩) (.inl rfl) _
  have hA3 : At 62 W3 w.heap.size #[.slice (some ⟨g, 0, none⟩) d.safe.length cS, .slice a0 d.cache.length c0, .func (.func 46) #[] #[.pointer (some ⟨p.B1, 0, none⟩), .pointer (some ⟨p.B2, 0, none⟩)], .int .i64 d.calls, .bool d.down] := by rw [hW3]; exact hA2.set 0 _
  have hlt := fun k => h2.lt k
  have h3 : DevAt W3 p d := h2.upd hu3 (fun k hk e => by have := H.out.lt k hk; omega) (fun e => by have := H.out.b1.lt; omega) (fun e => by have := H.out.b2.lt; omega)
  have hoS3 : W3.ownsRow 0 72 128 (.slice (some ⟨g, 0, none⟩) d.safe.length cS) d.safe.length (d.safe.map vals8).flatten := ownsRow_upd hoS hu3 (fun k e q => by cases e; have : g = w.heap.size := q; omega)
  have n1 : W3.cell? ⟨p.D, 1, none⟩ = some (.slice a0 d.cache.length c0) := by rw [← HV.out]; exact h3.dev.cell 1
  have HC2 := Lib.hid (clone_wr (.slice a0 d.cache.length c0) d.cache.length (d.cache.map wcells) W3 (by rw [← HV.out]; exact h3.cache) (fun r hr => by obtain ⟨x, _, rfl⟩ := List.mem_map.1 hr; exact wcells_one x) (by have := HN.out; omega))
  have HW3 := Lib.hid (And.intro hA3 (And.intro h3 (And.intro hoS3 (And.intro (show W3.heap.size = W2.heap.size by rw [hW3]; simp) (And.intro hg (show Below w.heap.size w W3 from by
    have h0 := (b1.trans (hb2.mono (by omega)))
    rw [hW3]; exact h0.setCell (p := ⟨w.heap.size, 0, none⟩) (Nat.le_refl _) _))))))
  have HE3 := Lib.hid hW3
  have HSZ := Lib.hid (show w.heap.size + 1 ≤ W2.heap.size by omega)
  rw [hW3] at n1
  clear hoS hnS hfS hb2 hA1 h1 s1 b1 hsz2 hA2 h2 hu3 hA3 h3 hoS3 hW3 hg hlt HE
  go_wp2_with fail
  rw [← HE3.out]
  clear n1
  refine HC2.out.mono ?_
  rintro e W4 ⟨vC, rfl, hoC, hnC, hfC, hb4⟩
  obtain ⟨hA3, h3, hoS3, s3, hg, hB3⟩ := HW3.out
  have hsz4 := hb4.size
  have hsz2 := HSZ.out
  have hA4 : At 62 W4 w.heap.size _ := hA3.below (by omega) hb4
  have h4 : DevAt W4 p d := h3.below hb4
  have hoS4 := ownsRow_upd hoS3 (Upd.of hb4 (fun _ => False)) (fun _ _ q => q)
  have f1 := hA4.free 1
  have e1 : W4.cell? ⟨w.heap.size, 1, none⟩ = some (.slice a0 d.cache.length c0) := hA4.cell 1
  obtain ⟨va, vb, vc, hvC⟩ : ∃ va vb vc, vC = .slice va vb vc := by
    rcases hoC.2 with ⟨e, _⟩ | ⟨g, cap', cur, e, _⟩
    · exact ⟨_, _, _, e⟩
    · exact ⟨_, _, _, e⟩
  subst hvC
  have hu5 : Upd (fun k => k = w.heap.size) W4 (W4.setCell ⟨w.heap.size, 1, none⟩ (.slice va vb vc)) := (Upd.refl (fun k => k = w.heap.size) W4).setCell (p := ⟨w.heap.size, 1, none⟩) (.inl rfl) _
  have HR := Lib.hid (show CopyE w (W4.setCell ⟨w.heap.size, 1, none⟩ (.slice va vb vc)) d (.returned (ptr w.heap.size)) from by
    refine ⟨⟨w.heap.size, g, cS, p.B1, p.B2, .slice va vb vc⟩, rfl, ⟨hA4.set 1 _, h4.b1.upd hu5 (fun e => by have := H.out.b1.lt; omega), h4.b2.upd hu5 (fun e => by have := H.out.b2.lt; omega), ownsRow_upd hoS4 hu5 (fun k e q => by cases e; have : g = w.heap.size := q; omega), ownsRow_upd hoC hu5 (fun k e q => by have := hfC k e; have : k = w.heap.size := q; omega), H.out.ok⟩, ?_, ?_⟩
    · rintro k (q | q | q)
      · have : k = w.heap.size := q; omega
      · have : k = g := q; omega
      · have := hfC k q; omega
    · exact (hB3.trans (hb4.mono (by omega))).setCell (p := ⟨w.heap.size, 1, none⟩) (Nat.le_refl _) _)
  clear hoC hnC hfC hb4 hA3 h3 hoS3 s3 hg hB3 hsz4 hsz2 hA4 h4 hoS4 hu5 f0 e0
  go_wp2
  go_ret
  exact HR.out
end Go.Proofs.Yteopbeafhhfdoaa
