/- Records, Waiting, Append. -/
import Derived.Test.YtpcbolmidnoaiaaJCalls
set_option linter.unusedVariables false
set_option linter.unusedSimpArgs false
namespace Go.Proofs.Ytpcbolmidnoaiaa
open Go.RowKit Go.Shelf
theorem lens_of {l : List (List Int)} (h : ∀ L ∈ l, RecL L) (hs : sizeN l ≤ 600000) : l.length ≤ 1000000 ∧ ∀ L ∈ l, L.length ≤ 1000000 := by
  refine ⟨by have := sizeN_len l; omega, fun L hL => by have := (h L hL).2; omega⟩
theorem Jv.Ok.sizes {J : Jv} (h : J.Ok) : sizeN J.recs ≤ 600000 ∧ sizeN J.wait ≤ 600000 := by
  have := h.fits; have := h.len; omega
theorem records_any {w : World} {D : Nat} (j : JPl) (J : Jv) (h : JAt w D j J) : Calls Try.prog 11 #[ptr j.B] w (CopiedE J.recs w) := by
  obtain ⟨a, c, e, _, hb⟩ := h.recsBss
  have c1 : w.cell? ⟨j.B, 1, none⟩ = some (.slice a J.recs.length c) := by rw [← e]; exact h.jr.cell 1
  have HM := Lib.hid (jmade_any h)
  obtain ⟨l1, l2⟩ := lens_of h.ok.recs h.ok.sizes.1
  have HC := Lib.hid (copied_any a J.recs.length c J.recs w hb rfl l1 l2)
  obtain ⟨n, hn⟩ : ∃ n, J.recs.length = n := ⟨_, rfl⟩
  rw [hn] at c1 HC
  clear h e hb l1 l2 hn
  go_enter Try.func11, Try.ntmps11
  go_wp2_with (first | (go_at_call 35; refine HM.out.mono ?_; rintro e w' ⟨rfl, rfl⟩) | (go_at_call 36; refine HC.out.mono ?_; rintro e w1 ⟨v, rfl, hO⟩; have HO := Lib.hid hO; clear hO) | fail)
  go_ret
  exact ⟨v, rfl, HO.out⟩
theorem waiting_any {w : World} {D : Nat} (j : JPl) (J : Jv) (h : JAt w D j J) : Calls Try.prog 12 #[ptr j.B] w (CopiedE J.wait w) := by
  obtain ⟨a, c, e, _, hb⟩ := h.waitBss
  have c1 : w.cell? ⟨j.B, 4, none⟩ = some (.slice a J.wait.length c) := by rw [← e]; exact h.jr.cell 4
  have HM := Lib.hid (jmade_any h)
  obtain ⟨l1, l2⟩ := lens_of h.ok.wait h.ok.sizes.2
  have HC := Lib.hid (copied_any a J.wait.length c J.wait w hb rfl l1 l2)
  obtain ⟨n, hn⟩ : ∃ n, J.wait.length = n := ⟨_, rfl⟩
  rw [hn] at c1 HC
  clear h e hb l1 l2 hn
  go_enter Try.func12, Try.ntmps12
  go_wp2_with (first | (go_at_call 35; refine HM.out.mono ?_; rintro e w' ⟨rfl, rfl⟩) | (go_at_call 36; refine HC.out.mono ?_; rintro e w1 ⟨v, rfl, hO⟩; have HO := Lib.hid hO; clear hO) | fail)
  go_ret
  exact ⟨v, rfl, HO.out⟩
/-- Appending slices that lie in a row. -/
theorem run_pushes (base ty : Nat) (w : World) (v : Value) (rs ws : List Sl) (h : SlsAt base w v rs) (hr : ∀ r ∈ ws, Own8 base w r.v r.L) (a : Addr) (c : Nat) (hg : ∀ j u, (valsS ws)[j]? = some u → w.cell? (a.add j) = some u) (hl : rs.length + ws.length ≤ 10000000) (hb : base ≤ w.heap.size) :
    ∃ v' w', (Builtin.append_ #[22, 22] ty #[v, .slice (some a) ws.length c]).run Try.prog w = .ok v' w' ∧ SlsAt base w' v' (rs ++ ws) ∧ w.grownBy w' v.ownBlock ∧ (v'.ownBlock = v.ownBlock ∨ v'.ownBlock = some w.heap.size) := by
  obtain ⟨i, hi, hz, hs, hby⟩ := partsS
  obtain ⟨v', w', hrun, h2, h3, h4, h5⟩ := run_append_own_at (P := Try.prog) w base 22 ty 23 i _ 1 24 Try.underlying22 hi hz hs hby rfl (by decide) v rs.length (valsS rs) h.row a ws.length c (valsS ws) (by simp [valsS])
    hg (fun u hu => valsS_one u hu) (by unfold maxLen; omega) (by omega) hb
  have hk : ∀ k o, w.heap[k]? = some o → (∀ cs fr, o ≠ Obj.cells cs 23 fr) → w'.heap[k]? = some o := fun k o hk ho => by
    refine (h3.block k (Array.getElem?_eq_some_iff.1 hk).1 (fun e => ?_)).trans hk
    rcases h.row.2 with ⟨rfl, _⟩ | ⟨g', cap, cur, rfl, _, hh, _⟩
    · cases e
    · cases e
      rw [hh] at hk
      cases hk
      exact ho _ _ rfl
  refine ⟨v', w', hrun, ⟨?_, ?_⟩, h3, h5⟩
  · rw [List.length_append]
    unfold valsS at h2 ⊢
    rw [List.map_append]
    exact h2
  · intro q hq
    have keep : ∀ p : Sl, Own8 base w p.v p.L → Own8 base w' p.v p.L := fun p hp => by
      refine ⟨hp.1, hp.2.1, ?_⟩
      rcases hp.2.2 with e | ⟨g', cap, cur, e, hg', hh, rr⟩
      · exact .inl e
      · exact .inr ⟨g', cap, cur, e, hg', hk g' _ hh (fun cs fr e => by cases e), rr⟩
    rcases List.mem_append.1 hq with q1 | q1
    · exact keep q (h.each q q1)
    · exact keep q (hr q q1)
def appE (J : Jv) (L : List Int) : Int := if J.broken ≠ 0 then J.broken else if ¬ RecL L then 2 else if roomN J < 6 + L.length then 141 else 0
def Jv.app (J : Jv) (L : List Int) : Jv := if appE J L = 0 then { J with wait := J.wait ++ [L] } else J
/-- What a call of the journal leaves. -/
structure JStep (j j' : JPl) (w w' : World) : Prop where
  B : j'.B = j.B
  upd : Upd (jown j) w w'
  has : ∀ k, jown j' k → jown j k ∨ w.heap.size ≤ k
def AppE (w w' : World) (D : Nat) (j : JPl) (J : Jv) (L : List Int) (e : Ending) : Prop := e = .returned (.int .i64 (appE J L)) ∧ ∃ j', JAt w' D j' (J.app L) ∧ JStep j j' w w'
theorem JStep.of (j : JPl) {w w' : World} (h : Below w.heap.size w w') : JStep j j w w' := ⟨rfl, Upd.of h _, fun k h => .inl h⟩
theorem below_dr (w : World) (n : Nat) : Below w.heap.size w (w.drewN n) := ⟨rfl, rfl, rfl, Nat.le_refl _, fun _ _ => rfl⟩
theorem app_no {w : World} {D : Nat} {j : JPl} {J : Jv} {L : List Int} (h : JAt w D j J) {x : Int} (hx : appE J L = x) (h0 : x ≠ 0) {w' : World} (hb : Below w.heap.size w w') : AppE w w' D j J L (.returned (.int .i64 x)) := by
  refine ⟨by rw [hx], j, ?_, JStep.of j hb⟩
  unfold Jv.app
  rw [hx, if_neg h0]
  exact h.below hb
theorem roomN_eq (J : Jv) : sizeN J.recs + sizeN J.wait ≤ (J.len - 2) * 128 → roomN J = (J.len - 2) * 128 - (sizeN J.recs + sizeN J.wait) := fun h => by unfold roomN; omega
theorem JAt.rowB {w : World} {D : Nat} {j : JPl} {J : Jv} (h : JAt w D j J) : j.vW.ownBlock ≠ some j.B := fun hk => by
  have hBt := h.jr
  unfold At at hBt
  rcases h.wait.row.2 with ⟨e1, _⟩ | ⟨g, cap, cur, e1, _, hh, _⟩
  · rw [e1] at hk; cases hk
  · rw [e1] at hk
    have e2 : g = j.B := Option.some.inj hk
    rw [e2, hBt] at hh
    simp at hh
/-- A record more waits. -/
theorem japp {w w1 w3 : World} {D : Nat} {j : JPl} {J : Jv} {L : List Int} (h : JAt w D j J) (hr : RecL L) (hroom : 6 + L.length ≤ roomN J) {a3 : Option Addr} {c3 : Nat} (hO : Own8 w.heap.size w1 (.slice a3 L.length c3) L) (hb : Below w.heap.size w w1) {v' : Value}
    (hS : SlsAt 0 w3 v' (j.ws ++ [⟨a3, c3, L⟩])) (hg : (w1.alloc (.cells #[.slice a3 L.length c3] 23)).grownBy w3 j.vW.ownBlock) (hv : v'.ownBlock = j.vW.ownBlock ∨ v'.ownBlock = some (w1.heap.size + 1)) :
    ∃ j', JAt ((w3.setCell ⟨j.B, 4, none⟩ v').setCell ⟨j.B, 5, none⟩ (.int .i64 (sizeN (J.wait ++ [L]) : Nat))) D j' { J with wait := J.wait ++ [L] } ∧ JStep j j' w ((w3.setCell ⟨j.B, 4, none⟩ v').setCell ⟨j.B, 5, none⟩ (.int .i64 (sizeN (J.wait ++ [L]) : Nat))) := by
  have s1 := hb.size
  have ba : Below w1.heap.size w1 (w1.alloc (.cells #[.slice a3 L.length c3] 23)) := (Below.refl _ _).alloc (Nat.le_refl _) _
  have u3 : Upd (fun k => j.vW.ownBlock = some k) w w3 := (Upd.of (hb.trans (ba.mono s1)) _).grown hg (fun r e => .inl e)
  have u5 : Upd (fun k => k = j.B) w3 ((w3.setCell ⟨j.B, 4, none⟩ v').setCell ⟨j.B, 5, none⟩ (.int .i64 (sizeN (J.wait ++ [L]) : Nat))) := ((Upd.refl (fun k => k = j.B) w3).setCell (p := ⟨j.B, 4, none⟩) (.inl rfl) _).setCell (p := ⟨j.B, 5, none⟩) (.inl rfl) _
  have uA : Upd (jown j) w ((w3.setCell ⟨j.B, 4, none⟩ v').setCell ⟨j.B, 5, none⟩ (.int .i64 (sizeN (J.wait ++ [L]) : Nat))) := (u3.mono (O' := jown j) (fun k e => .inr (.inr e))).trans u5 (fun k e => .inl (.inl e))
  have uB : Upd (fun k => k = j.B ∨ j.vW.ownBlock = some k) w ((w3.setCell ⟨j.B, 4, none⟩ v').setCell ⟨j.B, 5, none⟩ (.int .i64 (sizeN (J.wait ++ [L]) : Nat))) := (u3.mono (O' := fun k => k = j.B ∨ j.vW.ownBlock = some k) (fun k e => .inr e)).trans u5 (fun k e => .inl (.inl e))
  have h8 : ∀ k cs fr, w.heap[k]? = some (.cells cs 5 fr) → ¬ (k = j.B ∨ j.vW.ownBlock = some k) := fun k cs fr hk e => h.not8 hk (e.elim .inl (fun e => .inr (.inr e)))
  have hBt := h.jr
  unfold At at hBt
  have rowB : ∀ v (rs : List Sl), SlsAt 0 w v rs → v.ownBlock ≠ some j.B := fun v rs hs hk => by
    rcases hs.row.2 with ⟨e1, _⟩ | ⟨g, cap, cur, e1, _, hh, _⟩
    · rw [e1] at hk; cases hk
    · rw [e1] at hk
      have e2 : g = j.B := Option.some.inj hk
      rw [e2, hBt] at hh
      simp at hh
  have hj3 : At 72 w3 j.B _ := h.jr.upd u3 (fun e => rowB _ _ h.wait e)
  have hvB : ∀ k, v'.ownBlock = some k → ¬ (k = j.B) := fun k hk e => by
    rcases hv with q | q
    · rw [q, e] at hk; exact rowB _ _ h.wait hk
    · rw [q] at hk
      have e2 : w1.heap.size + 1 = k := Option.some.inj hk
      have := h.jr.lt
      omega
  have hfit := h.ok.fits
  have hrm := roomN_eq J hfit
  have hsz : sizeN (J.wait ++ [L]) = sizeN J.wait + (6 + L.length) := by rw [sizeN_app, sizeN_cons]; rfl
  refine ⟨⟨j.B, j.vR, v', j.vP, j.rs, j.ws ++ [⟨a3, c3, L⟩]⟩, ⟨(hj3.set 4 v').set 5 _, sls_kept h.recs uB (fun k hk e => ?_) h8, ⟨ownsRow_upd hS.row u5 hvB, fun r hr' => ?_⟩, own8_kept h.part uB h8, h.rl, ?_, fun k hk e => ?_, ?_⟩, rfl, uA, fun k hk => ?_⟩
  · rcases e with e | e
    · exact rowB _ _ h.recs (by rw [hk, e])
    · exact h.apart k hk e
  · refine own8_kept (hS.each r hr') u5 (fun k cs fr hk e => ?_)
    have h3 := hj3
    unfold At at h3
    rw [e, h3] at hk
    simp at hk
  · rw [List.map_append, h.wl]; rfl
  · rcases hv with q | q
    · exact h.apart k hk (by rw [← q]; exact e)
    · have e' : v'.ownBlock = some k := e
      rw [q] at e'
      have e2 : w1.heap.size + 1 = k := Option.some.inj e'
      have := h.lt k (.inr (.inl hk))
      omega
  · refine ⟨h.ok.recs, fun M hM => ?_, h.ok.place, h.ok.num, h.ok.top, h.ok.len, ?_⟩
    · rcases List.mem_append.1 hM with q | q
      · exact h.ok.wait M q
      · rw [List.mem_singleton.1 q]; exact hr
    · show sizeN J.recs + sizeN (J.wait ++ [L]) ≤ (J.len - 2) * 128
      rw [hsz]
      omega
  · rcases hk with hk | hk | hk
    · exact .inl (.inl hk)
    · exact .inl (.inr (.inl hk))
    · rcases hv with q | q
      · exact .inl (.inr (.inr (by rw [← q]; exact hk)))
      · have e' : v'.ownBlock = some k := hk
        rw [q] at e'
        have e2 : w1.heap.size + 1 = k := Option.some.inj e'
        exact .inr (by omega)
set_option maxRecDepth 100000 in
set_option maxHeartbeats 2000000 in
theorem append_any (p : Pl) (d : Dv) (j : JPl) (J : Jv) (w : World) (hd : DevAt w p d) (h : JAt w p.D j J) (hl : d.safe.length = J.len) (a : Option Addr) (n c : Nat) (L : List Int) (hb : Bys8 w.heap.size w (.slice a n c) L) (hn : L.length = n) (hn6 : n ≤ 1000000) :
    Calls Try.prog 9 #[ptr j.B, .slice a n c] w fun e w' => AppE w w' p.D j J L e := by
  have hmx : Try.prog.follows .mixedOrders = true := by kernel_rfl
  have HB := Lib.hid (broken_any h)
  have HSZ := Lib.hid (size_any a n c w)
  by_cases hbr : J.broken = 0
  · by_cases hrec : RecL L
    · have hss : sizeE n = 6 + n := by unfold sizeE; rw [if_pos (by have := hrec; unfold RecL at this; omega)]
      rw [hss] at HSZ
      rw [hbr] at HB
      have HR := Lib.hid (room_any p d j J w hd h hl)
      have hsp : ¬ (((6 + n : Nat) : Int) == 0) = true := by simp; omega
      by_cases hroom : roomN J < 6 + n
      · have i1 : (roomN J : Int) < ((6 + n : Nat) : Int) := by omega
        have HF := Lib.hid (fun m => app_no (L := L) h (x := 141) (by unfold appE; rw [if_neg (fun q => q hbr), if_neg (fun q => q hrec), if_pos (by omega)]) (by decide) (below_dr w m))
        obtain ⟨S6, hS6⟩ : ∃ S6, 6 + n = S6 := ⟨_, rfl⟩
        rw [hS6] at HSZ i1
        have i0 : ((S6 : Int) == 0) = false := by simp; omega
        generalize roomN J = R at *
        clear hd h hl hb hn hn6 hbr hrec hss hsp hroom hS6
        go_enter Try.func9, Try.ntmps9
        go_wp2_with (first | (go_at_call 14; refine HB.out.mono ?_; rintro e w' ⟨rfl, rfl⟩) | (go_at_call 31; refine HSZ.out.mono ?_; rintro e w' ⟨rfl, rfl⟩) | (go_at_call 20; refine HR.out.mono ?_; rintro e w' ⟨rfl, m, rfl⟩) | fail)
        go_ret
        exact HF.out m
      · have i1 : ¬ ((roomN J : Int) < ((6 + n : Nat) : Int)) := by omega
        have hae : appE J L = 0 := by unfold appE; rw [if_neg (fun q => q hbr), if_neg (fun q => q hrec), if_neg (by omega)]
        have HAE := Lib.hid hae
        have HJ := Lib.hid (And.intro h (And.intro hrec (show 6 + L.length ≤ roomN J by omega)))
        have HBY := Lib.hid hb
        have HN := Lib.hid hn
        have hfr : sizeN J.wait ≤ 600000 := h.ok.sizes.2
        obtain ⟨S6, hS6⟩ : ∃ S6, 6 + n = S6 := ⟨_, rfl⟩
        have W5 := Lib.hid (show wrap64 ((sizeN J.wait : Int) + (S6 : Int)) = ((sizeN (J.wait ++ [L]) : Nat) : Int) by
          rw [sizeN_app, sizeN_cons, hn]
          show _ = ((sizeN J.wait + (6 + n + 0) : Nat) : Int)
          unfold wrap64; omega)
        rw [hS6] at HSZ i1
        have i0 : ((S6 : Int) == 0) = false := by simp; omega
        have HCL := Lib.hid (fun m => clone_any (B := w.heap.size) a n c L (w.drewN m) (hb.below (below_dr w m)) (below_dr w m).size (by omega))
        unfold Made at HCL
        rw [hn] at HCL
        have HWL := Lib.hid (show j.ws.length + 1 ≤ 10000000 by
          have := sizeN_len J.wait
          have := congrArg List.length h.wl
          rw [List.length_map] at this
          omega)
        have k4 : w.cell? ⟨j.B, 4, none⟩ = some j.vW := h.jr.cell 4
        obtain ⟨wa, wn, wc, hvw⟩ : ∃ wa wn wc, j.vW = .slice wa wn wc := by obtain ⟨a, c, e, _⟩ := h.wait.form; exact ⟨_, _, _, e⟩
        have HVW := Lib.hid hvw
        rw [hvw] at k4
        obtain ⟨R, hR⟩ : ∃ R, roomN J = R := ⟨_, rfl⟩
        rw [hR] at HR i1
        clear hd h hl hb hn hn6 hbr hrec hss hsp hroom hS6 hae hvw hfr hR
        go_enter Try.func9, Try.ntmps9
        go_wp2_with (first | (go_at_call 14; refine HB.out.mono ?_; rintro e w' ⟨rfl, rfl⟩) | (go_at_call 31; refine HSZ.out.mono ?_; rintro e w' ⟨rfl, rfl⟩) | (go_at_call 20; refine HR.out.mono ?_; rintro e w' ⟨rfl, m, rfl⟩) | fail)
        have q1 : (fun Z : World => Z.cell? ⟨j.B, 4, none⟩ = some (.slice wa wn wc)) (w.drewN m).drew := k4
        refine regionL (fun Z : World => Z.cell? ⟨j.B, 4, none⟩ = some (.slice wa wn wc)) 11 (by kernel_rfl) ?_
        refine takeL (i := 0) (oi := { dst := some 20, op := Go.Op.move (Go.Operand.tmp 0), type := 31, pos := "journal.go:71", after := #[], guard := none }) (v := .pointer (some ⟨j.B, 0, none⟩)) [11, 10, 9] rfl (by kernel_rfl) (by kernel_rfl) (by kernel_rfl) (by kernel_rfl) (fun _ _ _ h => calm_panic h) rfl ?_ q1 ?_
        · intro Z hZ; go_simp
        simp only [Act.put, List.setIfInBounds_toArray, List.set_cons_zero, List.set_cons_succ]
        refine takeL (i := 1) (oi := { dst := some 21, op := Go.Op.move (Go.Operand.tmp 0), type := 31, pos := "journal.go:71", after := #[], guard := none }) (v := .pointer (some ⟨j.B, 0, none⟩)) [11, 10, 9, 8, 4, 3, 2] rfl (by kernel_rfl) (by kernel_rfl) (by kernel_rfl) (by kernel_rfl) (fun _ _ _ h => calm_panic h) rfl ?_ q1 ?_
        · intro Z hZ; go_simp
        simp only [Act.put, List.setIfInBounds_toArray, List.set_cons_zero, List.set_cons_succ]
        refine takeL (i := 2) (oi := { dst := some 22, op := Go.Op.nilCheck (Go.Operand.tmp 21), type := 0, pos := "journal.go:71", after := #[{ on := 1, ground := Go.Ground.data }], guard := none }) (v := .pointer (some ⟨j.B, 0, none⟩)) [11, 10, 9, 8, 4, 3] rfl (by kernel_rfl) (by kernel_rfl) (by kernel_rfl) (by kernel_rfl) (fun _ _ _ h => calm_panic h) rfl ?_ q1 ?_
        · intro Z hZ; go_simp
        simp only [Act.put, List.setIfInBounds_toArray, List.set_cons_zero, List.set_cons_succ]
        refine takeL (i := 3) (oi := { dst := some 23, op := Go.Op.fieldAddr 72 (Go.Operand.tmp 22) 4, type := 0, pos := "journal.go:71", after := #[{ on := 2, ground := Go.Ground.data }], guard := none }) (v := .pointer (some ⟨j.B, 4, none⟩)) [11, 10, 9, 8, 4] rfl (by kernel_rfl) (by kernel_rfl) (by kernel_rfl) (by kernel_rfl) (fun _ _ _ h => calm_panic h) rfl ?_ q1 ?_
        · intro Z hZ; go_simp
        simp only [Act.put, List.setIfInBounds_toArray, List.set_cons_zero, List.set_cons_succ]
        refine takeL (i := 4) (oi := { dst := some 24, op := Go.Op.load 22 (Go.Operand.tmp 23), type := 22, pos := "journal.go:71", after := #[{ on := 3, ground := Go.Ground.data }], guard := none }) (v := .slice wa wn wc) [11, 10, 9, 8] rfl (by kernel_rfl) (by kernel_rfl) (by kernel_rfl) (by kernel_rfl) (fun _ _ _ h => calm_panic h) rfl ?_ q1 ?_
        · intro Z hZ; have z1 := hZ; go_simp
        simp only [Act.put, List.setIfInBounds_toArray, List.set_cons_zero, List.set_cons_succ]
        refine takeL (i := 5) (oi := { dst := some 25, op := Go.Op.move (Go.Operand.tmp 1), type := 23, pos := "journal.go:71", after := #[], guard := none }) (v := .slice a n c) [11, 10, 9, 8, 7, 6] rfl (by kernel_rfl) (by kernel_rfl) (by kernel_rfl) (by kernel_rfl) (fun _ _ _ h => calm_panic h) rfl ?_ q1 ?_
        · intro Z hZ; go_simp
        simp only [Act.put, List.setIfInBounds_toArray, List.set_cons_zero, List.set_cons_succ]
        refine oneL (i := 6) (o := { dst := some 26, op := Go.Op.call { callee := Go.Callee.value (Go.Operand.func 32), args := #[Go.Operand.tmp 25], argTypes := #[23] }, type := 23, pos := "journal.go:71", after := #[{ on := 5, ground := Go.Ground.data }], guard := none }) rfl (by kernel_rfl) rfl ?_
        refine wp_by_call (f := 32) (args := #[.slice a n c]) (by go_simp) ((HCL.out (m + 1)).mono ?_)
        rintro e w1 ⟨a3, c3, rfl, hO3, hB3⟩
        obtain ⟨v', w3, hrun, hS3, hg3, hv3⟩ := run_pushes 0 22 (w1.alloc (.cells #[.slice a3 n c3] 23)) j.vW j.ws [⟨a3, c3, L⟩] (((HJ.out.1.below ((below_dr w (m + 1)).trans hB3)).wait).below ((Below.refl _ _).alloc (Nat.le_refl _) _) (Nat.le_refl _))
          (fun r hr => by rw [List.mem_singleton.1 hr]; show Own8 0 _ (.slice a3 L.length c3) L; rw [HN.out]; exact (hO3.below ((Below.refl _ _).alloc (Nat.le_refl _) _) (Nat.le_refl _)).le (Nat.zero_le _)) ⟨w1.heap.size, 0, none⟩ 1
          (fun j u hu => by
            cases j with
            | zero =>
              have e : Sl.v ⟨a3, c3, L⟩ = u := by simpa [valsS] using hu
              rw [← e, Addr.add_mid]
              show World.cell? _ _ = some (Value.slice a3 L.length c3)
              rw [HN.out]
              exact (At.new 23 w1 #[.slice a3 n c3]).cell 0
            | succ j => simp [valsS] at hu) HWL.out (Nat.zero_le _)
        have hJ := japp HJ.out.1 HJ.out.2.1 HJ.out.2.2 (a3 := a3) (c3 := c3) (by rw [HN.out]; exact hO3) ((below_dr w (m + 1)).trans hB3) hS3 (by rw [HN.out]; exact hg3) (by rw [World.size_alloc] at hv3; exact hv3)
        have q6 : (fun Z : World => Z.cell? ⟨j.B, 4, none⟩ = some (.slice wa wn wc)) w1 := by rw [← HVW.out]; exact (HJ.out.1.below ((below_dr w (m + 1)).trans hB3)).jr.cell 4
        have q7 : (fun Z : World => Z.cell? ⟨j.B, 4, none⟩ = some (.slice wa wn wc)) (w1.alloc (.cells #[.slice a3 n c3] 23)) := by rw [← HVW.out]; exact (HJ.out.1.below (((below_dr w (m + 1)).trans hB3).alloc (by have := hB3.size; simpa using this) _)).jr.cell 4
        have hj3 : At 72 w3 j.B _ := (HJ.out.1.jr.upd ((Upd.of (((below_dr w (m + 1)).trans hB3).alloc (by have := hB3.size; simpa using this) (.cells #[.slice a3 n c3] 23)) (fun k => j.vW.ownBlock = some k)).grown hg3 (fun r e => .inl e)) (fun e => HJ.out.1.rowB e))
        have HJ3 := Lib.hid (hj3.cell 4)
        have f34 := hj3.free 4
        have HRUN := Lib.hid hrun
        obtain ⟨va, vn, vc, hvf⟩ : ∃ va vn vc, v' = .slice va vn vc := by obtain ⟨a, c, e, _⟩ := hS3.form; exact ⟨_, _, _, e⟩
        subst hvf
        have HJ5 := Lib.hid ((hj3.set 4 (.slice va vn vc)).cell 5)
        have HF5 := Lib.hid ((hj3.set 4 (.slice va vn vc)).free 5)
        have HJJ := Lib.hid hJ
        clear hrun hS3 hv3 hJ hj3 hO3 hB3
        rw [HVW.out] at HRUN
        refine ⟨_, rfl, fun _ => q6, ?_⟩
        simp only [Act.put, List.setIfInBounds_toArray, List.set_cons_zero, List.set_cons_succ]
        refine oneL (i := 7) (o := { dst := some 27, op := Go.Op.buildSlice 22 1 #[(0, Go.Operand.tmp 26)], type := 22, pos := "journal.go:71", after := #[{ on := 6, ground := Go.Ground.data }], guard := none }) rfl (by kernel_rfl) rfl ?_
        refine wp_by_run (w' := w1.alloc (.cells #[.slice a3 n c3] 23)) (v := .slice (some ⟨w1.heap.size, 0, none⟩) 1 1) (by go_simp) ⟨fun _ => q7, ?_⟩
        simp only [Act.put, List.setIfInBounds_toArray, List.set_cons_zero, List.set_cons_succ]
        have q8 : (fun Z : World => Z.cell? ⟨j.B, 4, none⟩ = some (.slice wa wn wc)) w3 := by rw [← HVW.out]; exact HJ3.out
        refine oneL (i := 8) (o := { dst := some 28, op := Go.Op.call { callee := Go.Callee.builtin Go.Builtin.append, args := #[Go.Operand.tmp 24, Go.Operand.tmp 27], argTypes := #[22, 22] }, type := 22, pos := "journal.go:71", after := #[{ on := 4, ground := Go.Ground.data }, { on := 7, ground := Go.Ground.data }, { on := 6, ground := Go.Ground.chain }], guard := none }) rfl (by kernel_rfl) rfl ?_
        refine wp_by_run (w' := w3) (v := .slice va vn vc) (exec_app rfl rfl rfl HRUN.out) ⟨fun _ => q8, ?_⟩
        simp only [Act.put, List.setIfInBounds_toArray, List.set_cons_zero, List.set_cons_succ]
        refine takeL (i := 9) (oi := { dst := some 29, op := Go.Op.nilCheck (Go.Operand.tmp 20), type := 0, pos := "journal.go:71", after := #[{ on := 0, ground := Go.Ground.data }, { on := 0, ground := Go.Ground.phase }, { on := 1, ground := Go.Ground.phase }, { on := 2, ground := Go.Ground.phase }, { on := 3, ground := Go.Ground.phase }, { on := 4, ground := Go.Ground.phase }, { on := 5, ground := Go.Ground.phase }, { on := 6, ground := Go.Ground.phase }, { on := 7, ground := Go.Ground.phase }, { on := 8, ground := Go.Ground.phase }], guard := none }) (v := .pointer (some ⟨j.B, 0, none⟩)) [11, 10] rfl (by kernel_rfl) (by kernel_rfl) (by kernel_rfl) (by kernel_rfl) (fun _ _ _ h => calm_panic h) rfl ?_ q8 ?_
        · intro Z hZ; go_simp
        simp only [Act.put, List.setIfInBounds_toArray, List.set_cons_zero, List.set_cons_succ]
        refine takeL (i := 10) (oi := { dst := some 30, op := Go.Op.fieldAddr 72 (Go.Operand.tmp 29) 4, type := 0, pos := "journal.go:71", after := #[{ on := 9, ground := Go.Ground.data }, { on := 0, ground := Go.Ground.phase }, { on := 1, ground := Go.Ground.phase }, { on := 2, ground := Go.Ground.phase }, { on := 3, ground := Go.Ground.phase }, { on := 4, ground := Go.Ground.phase }, { on := 5, ground := Go.Ground.phase }, { on := 6, ground := Go.Ground.phase }, { on := 7, ground := Go.Ground.phase }, { on := 8, ground := Go.Ground.phase }], guard := none }) (v := .pointer (some ⟨j.B, 4, none⟩)) [11] rfl (by kernel_rfl) (by kernel_rfl) (by kernel_rfl) (by kernel_rfl) (fun _ _ _ h => calm_panic h) rfl ?_ q8 ?_
        · intro Z hZ; go_simp
        simp only [Act.put, List.setIfInBounds_toArray, List.set_cons_zero, List.set_cons_succ]
        refine oneL (i := 11) (o := { dst := none, op := Go.Op.store 22 (Go.Operand.tmp 30) (Go.Operand.tmp 28), type := 0, pos := "journal.go:71", after := #[{ on := 10, ground := Go.Ground.data }, { on := 8, ground := Go.Ground.data }, { on := 8, ground := Go.Ground.chain }, { on := 0, ground := Go.Ground.phase }, { on := 1, ground := Go.Ground.phase }, { on := 2, ground := Go.Ground.phase }, { on := 3, ground := Go.Ground.phase }, { on := 4, ground := Go.Ground.phase }, { on := 5, ground := Go.Ground.phase }, { on := 6, ground := Go.Ground.phase }, { on := 7, ground := Go.Ground.phase }, { on := 8, ground := Go.Ground.phase }], guard := none }) rfl (by kernel_rfl) rfl ?_
        refine wp_by_skip (w' := w3.setCell ⟨j.B, 4, none⟩ (.slice va vn vc)) (exec_store rfl rfl rfl q8 f34 rfl (by kernel_rfl)) ⟨fun h => absurd rfl h, ?_⟩
        simp only [Act.put, List.setIfInBounds_toArray, List.set_cons_zero, List.set_cons_succ]
        refine doneL (by kernel_rfl) (Calm.normal ?_) _
        have k5 : (w3.setCell ⟨j.B, 4, none⟩ (.slice va vn vc)).cell? ⟨j.B, 5, none⟩ = some (.int .i64 (sizeN J.wait : Nat)) := HJ5.out
        have f5 : (w3.setCell ⟨j.B, 4, none⟩ (.slice va vn vc)).frozen? ⟨j.B, 5, none⟩ = false := HF5.out
        have w5 := W5.out
        clear q1 q6 q7 q8 k4 hg3
        go_wp2
        go_ret
        refine ⟨by rw [HAE.out]; rfl, ?_⟩
        have hj := HJJ.out
        unfold Jv.app
        rw [HAE.out, if_pos rfl]
        exact hj
    · have hss : sizeE n = 0 := by unfold sizeE; rw [if_neg (by have := hrec; unfold RecL at this; omega)]
      rw [hss] at HSZ
      rw [hbr] at HB
      have HF := Lib.hid (app_no (L := L) h (x := 2) (by unfold appE; rw [if_neg (fun q => q hbr), if_pos hrec]) (by decide) (Below.refl _ w))
      clear hd h hl hb hn hn6 hbr hrec hss
      go_enter Try.func9, Try.ntmps9
      go_wp2_with (first | (go_at_call 14; refine HB.out.mono ?_; rintro e w' ⟨rfl, rfl⟩) | (go_at_call 31; refine HSZ.out.mono ?_; rintro e w' ⟨rfl, rfl⟩) | fail)
      go_ret
      exact HF.out
  · have HF := Lib.hid (app_no (L := L) h (x := J.broken) (by unfold appE; rw [if_pos hbr]) hbr (Below.refl _ w))
    have i0 : (J.broken != 0) = true := by simp [hbr]
    generalize J.broken = x at *
    clear hd h hl hb hn hn6 hbr HSZ
    go_enter Try.func9, Try.ntmps9
    go_wp2_with (first | (go_at_call 14; refine HB.out.mono ?_; rintro e w' ⟨rfl, rfl⟩) | fail)
    go_ret
    exact HF.out
end Go.Proofs.Ytpcbolmidnoaiaa
