/- A part of a sector is replaced. -/
import Derived.Test.YtpcbolmidnoaiaaDAppl
set_option linter.unusedVariables false
set_option maxRecDepth 100000
set_option linter.unusedSimpArgs false
namespace Go.Proofs.Ytpcbolmidnoaiaa
open Go.RowKit
theorem Upd.putObj {O : Nat → Prop} {X Y : World} (h : Upd O X Y) {k : Nat} (hk : O k ∨ X.heap.size ≤ k) (o : Obj) : Upd O X (Y.putObj k o) :=
  h.grown (grownBy_putObj' Y k o) (fun r e => by cases e; exact hk)
theorem Upd.setCells {O : Nat → Prop} {X Y : World} (h : Upd O X Y) {g : Nat} (hg : O g ∨ X.heap.size ≤ g) (o : Nat) (vs : List Value) : Upd O X (Y.setCells g o vs) :=
  h.grown (grown_setCells g vs o Y) (fun r e => by cases e; exact hg)
theorem vals8_sec (s : List (List Int)) (h : ∀ L ∈ s, L.length = 128) : ∀ r ∈ s.map vals8, r.length = 128 := fun r hr => by
  obtain ⟨L, hL, rfl⟩ := List.mem_map.1 hr
  rw [vals8_len]; exact h L hL
theorem safe_put {w : World} {S c : Nat} {s : List (List Int)} (h : w.ownsRow 0 94 128 (.slice (some ⟨S, 0, none⟩) s.length c) s.length (s.map vals8).flatten) (hs : ∀ L ∈ s, L.length = 128) {n : Int} (hn : n.toNat < s.length) {L : List Int} (hL : L.length = 128) (m : Nat) (hm : m ≤ 128) :
    (w.setCells S (n.toNat * 128) (vals8 (L.take m))).ownsRow 0 94 128 (.slice (some ⟨S, 0, none⟩) (putS s n L m).length c) (putS s n L m).length ((putS s n L m).map vals8).flatten := by
  have hr := vals8_sec s hs
  have hl : (vals8 (L.take m)).length = m := by rw [vals8_len, List.length_take, hL]; omega
  have hfl := flat_len _ hr
  rw [List.length_map] at hfl
  have hin : n.toNat * 128 + 128 ≤ s.length * 128 := by omega
  have := row_setCells (vals8 (L.take m)) (n.toNat * 128) _ w h (by rw [hl, hfl]; omega)
  rw [flat_set (s.map vals8) hr n.toNat (by simpa using hn) (vals8 (L.take m)) (by rw [hl]; exact hm)] at this
  rw [putS_len]
  have e : (putS s n L m).map vals8 = (s.map vals8).set n.toNat (vals8 (L.take m) ++ ((s.map vals8)[n.toNat]'(by simpa using hn)).drop (vals8 (L.take m)).length) := by
    unfold putS
    rw [List.map_set, hl, List.getElem_map]
    congr 1
    rw [show s.getD n.toNat [] = s[n.toNat] by simp [List.getD, hn]]
    simp [vals8]
  rw [e]
  exact this
/-- A write is applied, or a part of it. -/
theorem DevAt.put {w : World} {p : Pl} {d : Dv} (h : DevAt w p d) {n : Int} {L : List Int} (hx : 0 ≤ n ∧ n < d.safe.length ∧ Sec L) (m : Nat) (hm : m ≤ 128) :
    DevAt (w.setCells p.S (n.toNat * 128) (vals8 (L.take m))) p { d with safe := putS d.safe n L m } := by
  obtain ⟨a1, a2, a3, a4, a5, a6, a7⟩ := apart_own h
  have hn : n.toNat < d.safe.length := by omega
  have hu : Upd (fun k => k = p.S) w (w.setCells p.S (n.toNat * 128) (vals8 (L.take m))) := (Upd.refl (fun k => k = p.S) w).setCells (.inl rfl) _ _
  refine ⟨?_, h.b1.upd hu a5, h.b2.upd hu a6, safe_put h.safe (fun L hL => (h.ok.secs L hL).1) hn hx.2.2.1 m hm, ownsRow_upd h.cache hu (fun k e q => (a2 k e).2 q), ?_⟩
  · show At _ _ _ #[.slice _ (putS _ _ _ _).length _, _, _, _, _]
    rw [putS_len]
    exact h.dev.upd hu a1
  · refine ⟨by show 0 < (putS _ _ _ _).length; rw [putS_len]; exact h.ok.pos, by show (putS _ _ _ _).length ≤ _; rw [putS_len]; exact h.ok.most, putS_secs h.ok.secs hx.2.2 m hn, fun c hc => ?_, h.ok.full, h.ok.calls, h.ok.frm, h.ok.num, h.ok.plan⟩
    have := h.ok.wr c hc
    show _ ∧ _ < ((putS _ _ _ _).length : Int) ∧ _
    rw [putS_len]; exact this
theorem putAll_snoc (xs : List ((Int × List Int) × Nat)) (y : (Int × List Int) × Nat) (s : List (List Int)) : putAll (xs ++ [y]) s = putS (putAll xs s) y.1.1 y.1.2 y.2 := by unfold putAll; rw [List.foldl_append]; rfl
theorem slice_first (g o m : Nat) (hm : m ≤ 128) (w : World) : (Instr.sliceAt 94 (.pointer (some ⟨g, o, none⟩)) none (some (.int .i64 (m : Int))) none).run Try.prog w = .ok (.slice (some ⟨g, o, none⟩) m 128) w := by
  have h := run_sliceAt_array_h (P := Try.prog) w 94 ⟨g, o, none⟩ (by kernel_rfl) .i64 (m : Int) (by omega) (by rw [show Try.prog.arrayLen 94 = 128 by kernel_rfl]; omega)
  have sz : ∀ w, (sizeOf 5).run Try.prog w = .ok 1 w := fun w => by kernel_rfl
  rw [h, show Try.prog.elem 94 = 5 by kernel_rfl, sz, show Try.prog.arrayLen 94 = 128 by kernel_rfl]
  simp only [Result.andThen, slicedAt, Int.toNat_natCast]
  simp [Addr.add_mid]
theorem slice_whole (g o : Nat) (w : World) : (Instr.sliceAt 94 (.pointer (some ⟨g, o, none⟩)) none none none).run Try.prog w = .ok (.slice (some ⟨g, o, none⟩) 128 128) w := by
  have h := run_sliceAt_array_all (P := Try.prog) w 94 ⟨g, o, none⟩ (by kernel_rfl)
  have sz : ∀ w, (sizeOf 5).run Try.prog w = .ok 1 w := fun w => by kernel_rfl
  rw [h, show Try.prog.elem 94 = 5 by kernel_rfl, sz, show Try.prog.arrayLen 94 = 128 by kernel_rfl]
  simp [Result.andThen, slicedAt, Addr.add_mid]
/-- The first m bytes are copied. -/
theorem run_copy_sec (w : World) (ty : TypeId) (S o g k m : Nat) (hm : m ≤ 128) (L : List Int) (hL : L.length = 128) (hr : w.rangeAt g k (vals8 L)) (ht : w.there S o 128) :
    (Builtin.copy_ #[23, 23] ty #[.slice (some ⟨S, o, none⟩) m 128, .slice (some ⟨g, k, none⟩) 128 128]).run Try.prog w = .ok (.int .i64 (m : Int)) (w.setCells S o (vals8 (L.take m))) := by
  have hl : (vals8 (L.take m)).length = m := by rw [vals8_len, List.length_take, hL]; omega
  have h := run_copy_cells (P := Try.prog) w 23 23 ty 5 S o m 128 ⟨g, k, none⟩ 128 128 (vals8 (L.take m)) Try.underlying23 (by kernel_rfl) (by rw [hl]; exact (Nat.min_eq_right hm).symm)
    (fun j v hv => by
      rw [Addr.add_mid]
      refine hr j v ?_
      have hj : j < m := by have := (List.getElem?_eq_some_iff.1 hv).1; omega
      rw [← hv]
      unfold vals8
      rw [List.map_take, List.getElem?_take_of_lt hj])
    (fun j hj => (ht j (by omega)).1) (fun j hj => (ht j (by omega)).2) (vals8_one _)
  rw [h, hl]
  rfl
end Go.Proofs.Ytpcbolmidnoaiaa
