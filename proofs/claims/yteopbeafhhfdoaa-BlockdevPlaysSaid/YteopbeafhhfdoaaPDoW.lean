/- A call of both devices: Write and Put. -/
import Derived.Test.YteopbeafhhfdoaaPDo
import Derived.Test.YteopbeafhhfdoaaPRest
set_option linter.unusedVariables false
set_option linter.unusedSimpArgs false
namespace Go.Proofs.Yteopbeafhhfdoaa
open Go.RowKit Go.Maps
theorem write_same (d : Dv) (n : Int) (L : List Int) : (d.write n L).safe.length = d.safe.length ∧ (d.write n L).calls ≤ d.calls + 1 := by
  unfold Dv.write
  split
  · exact ⟨rfl, by omega⟩
  · exact ⟨rfl, Int.le_refl _⟩
section
variable {B : Nat} {p : Pl} {q : Rl} {d : Dv} {w w' : World}
/-- A row that is none of theirs is written to. -/
theorem Both.row {g n : Nat} {f : Nat → Int} (h : Both w B p q d) (hr : Row8 g n f w) (hn : 0 < n) (hB : B ≤ g) (ho : ¬ own p g) (hro : ¬ rown q g)
    (h8 : ∀ k cs fr, w.heap[k]? = some (.cells cs 5 fr) → ¬ q.G k → ¬ (k = g)) (hu : Upd (fun k => k = g) w w') : Both w' B p q d ∧ Below B w w' := by
  have h0 := (hr 0 hn).1
  refine ⟨⟨h.dev.upd hu (fun k hk e => ho (e ▸ hk)) (fun e => ?_) (fun e => ?_), h.ref.upd hu (fun k hk e => hro (e ▸ hk)) h8, h.low, h.rlow⟩, hu.below (fun j e => by omega) h.size⟩
  · have e' : p.B1 = g := e
    have := h.dev.b1.cell 0
    rw [e', h0] at this
    simp at this
  · have e' : p.B2 = g := e
    have := h.dev.b2.cell 0
    rw [e', h0] at this
    simp at this
theorem Both.re {G : Nat → Prop} (h : Both w B p q d) (hb : Below w.heap.size w w') (h1 : ∀ k, G k → w.heap.size ≤ k) (h2 : ∀ k, G k → k < w'.heap.size) : Both w' B p { q with G := G } d :=
  ⟨h.dev.below hb, h.ref.re hb G h1 h2, h.low, h.rlow⟩
/-- What stands between the calls of a write, and behind them. -/
structure WrF (w0 w1 : World) (B : Nat) (p : Pl) (q : Rl) (d : Dv) (g n : Nat) (x : Opn) (L : List Int) : Prop where
  both : Both w1 B p { q with G := fun k => k = g } d
  row : Row8 g n (bytesF x) w1
  low : B ≤ g
  lt : g < w1.heap.size
  nown : ¬ own p g
  nrown : ¬ rown q g
  pos : 0 < n
  len : L.length = n
  bys : Bys8 w1.heap.size w1 (.slice (some ⟨g, 0, none⟩) n n) L
theorem wrF {w0 w1 : World} {g : Nat} {x : Opn} (h : Both w0 B p q d) (hg : w0.heap.size ≤ g) (hl : g < w1.heap.size) (hr : Row8 g (bytesN x) (bytesF x) w1) (hb : Below w0.heap.size w0 w1) : WrF w0 w1 B p q d g (bytesN x) x (bytesL x) :=
  ⟨h.re hb (fun k e => by omega) (fun k e => by omega), hr, Nat.le_trans h.size hg, hl, fun e => by have := h.dev.lt _ e; omega, fun e => by have := h.ref.lt _ e; omega, by unfold bytesN; split <;> omega, bytesL_len x, hr.bys (fun j _ => bytesF_in x j) hl _⟩
theorem WrF.next {w0 w1 w2 : World} {p1 : Pl} {g n : Nat} {x : Opn} {L : List Int} (h : WrF w0 w1 B p q d g n x L) (hs : Step p p1 w1 w2) : Row8 g n (bytesF x) w2 ∧ g < w2.heap.size ∧ ¬ own p1 g ∧ Bys8 w2.heap.size w2 (.slice (some ⟨g, 0, none⟩) n n) L := by
  have hk : w2.heap[g]? = w1.heap[g]? := hs.upd.block g h.lt h.nown
  refine ⟨h.row.block hk, Nat.lt_of_lt_of_le h.lt hs.upd.size, fun e => ?_, (bys8_upd h.bys hs.upd (Nat.le_refl _) (fun _ k e => by cases e; exact h.nown)).mono hs.upd.size⟩
  rcases hs.has g e with e | e
  · exact h.nown e
  · have := h.lt; omega
/-- Both calls are done. -/
theorem WrF.done {w0 w1 w2 w3 : World} {p1 : Pl} {q1 : Rl} {e : Dv} {g n : Nat} {x : Opn} {L : List Int} (h : WrF w0 w1 B p q d g n x L) (h1 : DevAt w2 p1 e) (s1 : Step p p1 w1 w2) (h2 : RefAt w3 q1 e) (s2 : RStep { q with G := fun k => k = g } q1 w2 w3) :
    Both w3 B p1 q1 e ∧ Moved B p p1 q q1 w1 w3 ∧ Row8 g n (bytesF x) w3 ∧ g < w3.heap.size ∧ ¬ own p1 g ∧ ¬ rown q1 g ∧ (∀ k cs fr, w3.heap[k]? = some (.cells cs 5 fr) → ¬ q1.G k → ¬ (k = g)) := by
  obtain ⟨r2, l2, o2, _⟩ := h.next s1
  have hr : RefAt w2 { q with G := fun k => k = g } d := h.both.ref.step h.both.dev s1
  obtain ⟨hb, hm⟩ := h.both.call h1 s1 h2 s2 hr
  have hk : w3.heap[g]? = w2.heap[g]? := s2.upd.block g l2 h.nrown
  have hG : q1.G = fun k => k = g := congrArg Prod.snd s2.D
  refine ⟨hb, ⟨hm.D, hm.rD, hm.below, hm.u, hm.upd, hm.has⟩, r2.block hk, Nat.lt_of_lt_of_le l2 s2.upd.size, o2, fun e => ?_, fun k cs fr _ hn e => hn (by rw [hG]; exact e)⟩
  rcases s2.has g e with e | e
  · exact h.nrown e
  · omega
set_option maxRecDepth 100000 in
set_option maxHeartbeats 1000000 in
theorem do_write (h : Both w B p q d) (x : Opn) (hk : x.kind = 0) (hx : OpnIs x) (hl : x.len ≤ 300) (hc : d.calls < 4611686018427387904) :
    Calls Try.prog 11 #[ptr p.D, ptr q.D, .agg (opC x)] w (DoE w B p q d) := by
  have hb : Below w.heap.size w (boxW w x) := (Below.refl _ _).alloc (Nat.le_refl _) _
  have hB := h.grow hb
  have HM0 := Lib.hid (And.intro hb h.size)
  have HBY := Lib.hid (bytes_any x hx hl (boxW w x))
  obtain ⟨n, hn⟩ : ∃ n, bytesN x = n := ⟨_, rfl⟩
  have HN := Lib.hid hn
  have hn300 : n ≤ 300 := by rw [← hn]; unfold bytesN; split <;> omega
  have HN3 := Lib.hid hn300
  rw [hn] at HBY
  have HS := Lib.hid (write_same d x.n (bytesL x))
  have HB := Lib.hid hB
  have HA0 := Lib.hid (At.new 36 w (opC x))
  have HSZ := Lib.hid (show (boxW w x).heap.size = w.heap.size + 1 by simp)
  have HOP := Lib.hid (fun e => by have := h.dev.lt _ e; omega : ¬ own p w.heap.size)
  have HC := Lib.hid hc
  unfold boxW opC at *
  rw [hk] at *
  clear h hb hB hk hn hx hl hn300 hc
  go_enter Try.func11, Try.ntmps11
  go_wp2_with (first
    | (go_at_call 27; refine HBY.out.mono ?_; rintro e w1 ⟨g, hg, hl1, rfl, hr1, hb1⟩; have HF := Lib.hid (wrF (x := x) HB.out hg hl1 (by rw [HN.out]; exact hr1) hb1); rw [HN.out] at HF; have HA1 := Lib.hid (HA0.out.below (by rw [HSZ.out]; omega) hb1); have HMB := Lib.hid (And.intro (HM0.out.1.trans (hb1.mono (by rw [HSZ.out]; omega))) (show w.heap.size ≤ g from by have := HSZ.out; omega)); have b1 : w1.cell? ⟨w.heap.size, 1, none⟩ = some (.int .i64 x.n) := HA1.out.cell 1; have HW := Lib.hid (write_any p d w1 HF.out.both.dev HC.out x.n (some ⟨g, 0, none⟩) n n (bytesL x) HF.out.bys (fun k e => by cases e; exact HF.out.nown)); rw [HF.out.len] at HW; clear hg hl1 hr1 hb1)
    | (go_at_call 19; refine HW.out.mono ?_; rintro e w2 ⟨rfl, p1, h1, s1⟩; have HD1 := Lib.hid (And.intro h1 s1); have b2 : w2.cell? ⟨w.heap.size, 1, none⟩ = some (.int .i64 x.n) := (HA1.out.upd s1.upd HOP.out).cell 1; have H3 := Lib.hid (rput_any _ d w2 (HF.out.both.ref.step HF.out.both.dev s1) x.n (some ⟨g, 0, none⟩) n n (bytesL x) (HF.out.next s1).2.2.2 HF.out.len HC.out); clear h1 s1)
    | (go_at_call 32; refine H3.out.mono ?_; rintro e w3 ⟨rfl, q1, h2, s2⟩; have HX := Lib.hid (HF.out.done HD1.out.1 HD1.out.2 h2 s2); clear h2 s2)
    | fail)
  generalize writeE d x.n n = E at *
  go_loopw [39] (fun i wr => ∃ (k : Nat) (f : Nat → Int), k ≤ n ∧ i = .int .i64 (k : Int) ∧ Row8 g n f wr ∧ Upd (fun k => k = g) w3 wr) (fun i _ => (n - intOf i).toNat)
  case atStart => exact ⟨0, _, Nat.zero_le _, rfl, HX.out.2.2.1, Upd.refl _ _⟩
  case round =>
    obtain ⟨k, f, hk, rfl, hP, hU⟩ := hrel
    clear b1 b2
    by_cases hkn : k < n
    · have i1 : (k : Int) < n := by omega
      have in0 : (0 : Int) ≤ (k : Int) := by omega
      have wk : wrap64 ((k : Int) + 1) = ((k + 1 : Nat) : Int) := by have := HN3.out; unfold wrap64; omega
      obtain ⟨c1, f1⟩ := hP k hkn
      have HP := Lib.hid (And.intro hP hU)
      have HK := Lib.hid hkn
      clear hP hU hkn hk
      go_wp2
      go_roundw
      case rel => exact ⟨k + 1, _, HK.out, by first | rfl | rw [wk], HP.out.1.set k _, HP.out.2.setCell (p := ⟨g, k, none⟩) (.inl rfl) _⟩
      case measure => exact meas_succ HK.out wk
    · have hke : k = n := by omega
      subst hke
      have i1 : ¬ ((k : Int) < k) := by omega
      have HU := Lib.hid hU
      clear hP hU hkn hk
      go_wp2
      go_ret
      obtain ⟨x1, x2, x3, x4, x5, x6, x7⟩ := HX.out
      have hz := x1.row x3 HF.out.pos HF.out.low x5 x6 x7 HU.out
      exact ⟨by first | rfl | simp, p1, q1, _, hz.1, (x2.from HMB.out.1 HM0.out.2).row HU.out HMB.out.2 HM0.out.2, HS.out⟩
end
end Go.Proofs.Yteopbeafhhfdoaa
