/- Bytes that the call itself made: appended to, read, compared as texts. -/
import Derived.Test.YtfpgddkihlpafaaCRow
import Derived.Maps.AppendAt
import Derived.Laws.OwnMore
import Derived.Laws.BytesArg
import Derived.RegionTactic
import Derived.OwnWalk
import Derived.Below
set_option linter.unusedVariables false
namespace Go.Proofs.Ytfpgddkihlpafaa
open Go.RowKit Go.Shelf
def vals (xs : List Int) : List Value := xs.map (Value.int .u8)
theorem vals_len (xs : List Int) : (vals xs).length = xs.length := by simp [vals]
theorem vals_app (xs ys : List Int) : vals xs ++ vals ys = vals (xs ++ ys) := by simp [vals]
theorem vals_one (xs : List Int) : ∀ u ∈ vals xs, u.oneCell' = true := by
  intro u hu; simp [vals] at hu; obtain ⟨n, _, rfl⟩ := hu; rfl
theorem vals_get (xs : List Int) (j : Nat) (h : j < xs.length) : (vals xs)[j]? = some (.int .u8 (xs.getD j 0)) := by simp [vals, h, List.getD]
/-- The slice value v is the call's own row of just the bytes xs, in a block from 'base' on; or nil, and there are none. -/
def Own (base : Nat) (w : World) (v : Value) (xs : List Int) : Prop := (∀ x ∈ xs, 0 ≤ x ∧ x < 256) ∧ w.ownsRow base 5 1 v xs.length (vals xs)
theorem Own.nil (base : Nat) (w : World) : Own base w (.slice none 0 0) [] := ⟨by simp, by simp [vals], .inl ⟨rfl, rfl⟩⟩
theorem Own.form {base : Nat} {w : World} {v : Value} {xs : List Int} (h : Own base w v xs) : ∃ a c, v = .slice a xs.length c := by
  rcases h.2.2 with ⟨rfl, e⟩ | ⟨g, cap, cur, rfl, _⟩
  · exact ⟨none, 0, by rw [e]⟩
  · exact ⟨_, cap, rfl⟩
theorem Own.bys {base : Nat} {w : World} {v : Value} {xs : List Int} (h : Own base w v xs) : Bys w.heap.size w v xs := by
  refine ⟨h.1, ?_⟩
  rcases h.2.2 with ⟨rfl, e⟩ | ⟨g, cap, cur, rfl, hg, hb, hn, hm, hs, ht⟩
  · exact .inl ⟨List.eq_nil_of_length_eq_zero e, none, 0, rfl⟩
  · refine .inr ⟨g, 0, cap, rfl, (Array.getElem?_eq_some_iff.1 hb).1, fun j hj => ?_⟩
    have e1 := vals_get xs j hj
    rw [← ht, Nat.mul_one, List.getElem?_take_of_lt hj] at e1
    simp only [World.cell?, hb, Nat.zero_add]
    simpa using e1
theorem Own.row {base : Nat} {w : World} {v : Value} {xs : List Int} (h : Own base w v xs) : ∀ k, v.ownBlock = some k → base ≤ k := by
  intro k hk
  rcases h.2.2 with ⟨rfl, e⟩ | ⟨g, cap, cur, rfl, hg, _⟩
  · simp [Value.ownBlock] at hk
  · simp [Value.ownBlock] at hk; omega
theorem Own.below {base B : Nat} {w w' : World} {v : Value} {xs : List Int} (h : Own base w v xs) (hb : Below B w w') (hB : w.heap.size ≤ B) : Own base w' v xs := by
  refine ⟨h.1, h.2.1, ?_⟩
  rcases h.2.2 with e | ⟨g, cap, cur, rfl, hg, hh, r⟩
  · exact .inl e
  · have hlt : g < w.heap.size := (Array.getElem?_eq_some_iff.1 hh).1
    exact .inr ⟨g, cap, cur, rfl, hg, (hb.block g (by omega)).trans hh, r⟩
theorem Bys.take {B : Nat} {w : World} {a : Option Addr} {len cap : Nat} {xs : List Int} (h : Bys B w (.slice a len cap) xs) (n : Nat) (hn : n ≤ xs.length) : Bys B w (.slice a n cap) (xs.take n) := by
  obtain ⟨hr, h⟩ := h
  refine ⟨fun x hx => hr x (List.mem_of_mem_take hx), ?_⟩
  rcases Nat.eq_zero_or_pos n with rfl | h0
  · exact .inl ⟨by simp, a, cap, rfl⟩
  · rcases h with ⟨rfl, _⟩ | ⟨b, off, cap', e, hb, hc⟩
    · simp at hn; omega
    · cases e
      refine .inr ⟨b, off, cap, by rw [List.length_take, Nat.min_eq_left hn], hb, fun j hj => ?_⟩
      have hj' : j < n := by simp at hj; omega
      rw [hc j (by omega)]
      simp [List.getD, List.getElem?_take_of_lt hj']
theorem Own.cap {base n c : Nat} {a : Option Addr} {w : World} {xs : List Int} (h : Own base w (.slice a n c) xs) : n ≤ c := by
  rcases h.2.2 with ⟨e, e2⟩ | ⟨g, cap, cur, e, hg, hb, hn, _⟩
  · cases e; exact Nat.zero_le _
  · cases e; exact hn
theorem byte_info : (Try.prog.info? 5).map (fun i => (i.zero, i.size, i.bytes)) = some (some (.int .u8 0), 1, 1) := by kernel_rfl
theorem byte_parts : ∃ i, Try.prog.info? 5 = some i ∧ i.zero = some (.int .u8 0) ∧ i.size = 1 ∧ i.bytes = 1 := by
  have h := byte_info
  cases hi : Try.prog.info? 5 with
  | none => rw [hi] at h; cases h
  | some i => rw [hi] at h; simp at h; exact ⟨i, rfl, h.1, h.2.1, h.2.2⟩
theorem run_bapp (base ty : Nat) (w : World) (v : Value) (ys : List Int) (hown : Own base w v ys) (B : Nat) (A : Option Addr) (m c : Nat) (xs : List Int) (hb : Bys B w (.slice A m c) xs)
    (hlen : ys.length + xs.length ≤ 100000000000000) (hbase : base ≤ w.heap.size) :
    ∃ v' w', (Builtin.append_ #[22, 22] ty #[v, .slice A m c]).run Try.prog w = .ok v' w' ∧ Own base w' v' (ys ++ xs) ∧ Below base w w' := by
  obtain ⟨i, hi, hz, hs, hby⟩ := byte_parts
  obtain ⟨hr, hb⟩ := hb
  have hrow := hown.row
  have main : ∀ (ad : Addr), A = some ad → m = xs.length → (∀ j u, (vals xs)[j]? = some u → w.cell? (ad.add j) = some u) →
      ∃ v' w', (Builtin.append_ #[22, 22] ty #[v, .slice A m c]).run Try.prog w = .ok v' w' ∧ Own base w' v' (ys ++ xs) ∧ Below base w w' := by
    rintro ad rfl rfl hc
    obtain ⟨v', w', hrun, h2, h3, _, _⟩ := run_append_own_at (P := Try.prog) w base 22 ty 5 i (.int .u8 0) 1 1 Try.underlying22 hi hz hs hby rfl (by decide) v ys.length (vals ys) hown.2 ad xs.length c (vals xs) (by simp [vals]) hc (vals_one xs)
      (by unfold maxLen; omega) (by omega) hbase
    refine ⟨v', w', hrun, ⟨?_, by rw [List.length_append, ← vals_app]; exact h2⟩, (Below.refl _ _).grown h3 hbase hrow⟩
    intro x hx
    rcases List.mem_append.1 hx with h | h
    · exact hown.1 x h
    · exact hr x h
  rcases hb with ⟨rfl, a, cap, e⟩ | ⟨b, off, cap, e, hB, hcs⟩
  · cases e
    rcases A with _ | ad
    · refine ⟨v, w, ?_, by simpa using hown, Below.refl _ _⟩
      rcases hown.2.2 with ⟨rfl, _⟩ | ⟨g, cap, cur, rfl, _, _, hnc, _⟩
      · simp [Builtin.append_, run_underlying Try.underlying22, sizeOf, typeInfo, hi, Builtin.lenOf, Builtin.firstCells]
      · simp [Builtin.append_, run_underlying Try.underlying22, sizeOf, typeInfo, hi, Builtin.lenOf, Builtin.firstCells, hnc, storeCells]
    · exact main ad rfl rfl (by intro j u h; simp [vals] at h)
  · cases e
    refine main _ rfl rfl ?_
    intro j u h
    have hj : j < xs.length := by
      have := (List.getElem?_eq_some_iff.1 h).1; simpa [vals] using this
    rw [vals_get xs j hj] at h
    cases h
    have hplain : (⟨b, off, none⟩ : Addr).add j = ⟨b, off + j, none⟩ := by unfold Addr.add; split <;> simp_all
    rw [hplain]
    exact hcs j hj
theorem wpList_bapp {w : World} {ops : Array Oper} {rest : List Oper} {o : Oper} {a : Act} {Q : Exit → Act → World → Prop} (hgd : o.guard = none) (s x : Operand)
    (ho : o.op = .call { callee := .builtin .append, args := #[s, x], argTypes := #[22, 22] })
    (base : Nat) (v : Value) (ys : List Int) (hs : a.eval s = v) (hown : Own base w v ys) (B : Nat) (A : Option Addr) (m c : Nat) (xs : List Int) (hx : a.eval x = .slice A m c) (hb : Bys B w (.slice A m c) xs)
    (hlen : ys.length + xs.length ≤ 100000000000000) (hbase : base ≤ w.heap.size)
    (h : ∀ a' c' w', Own base w' (.slice a' (ys ++ xs).length c') (ys ++ xs) → Below base w w' → wpList Try.prog ops Q rest (a.put o.dst (.slice a' (ys ++ xs).length c')) w') : wpList Try.prog ops Q (o :: rest) a w := by
  refine wpList_plain hgd fun K hK => ?_
  obtain ⟨v', w', hrun, h2, h3⟩ := run_bapp base o.type w v ys hown B A m c xs hb hlen hbase
  obtain ⟨a', c', rfl⟩ := h2.form
  unfold Oper.wp execOp
  simp only [ho, resolve, invoke, builtin, Sem.run_bind, Sem.run_pure, Result.andThen_ok, List.map_toArray, List.map_cons, List.map_nil, hs, hx, hrun]
  exact hK _ _ (h a' c' w' h2 h3)
/-- The text of bytes. -/
theorem conv_bys {B : Nat} {w : World} {A : Option Addr} {m c : Nat} {xs : List Int} (hb : Bys B w (.slice A m c) xs) : (convert 22 9 (.slice A m c)).run Try.prog w = .ok (.string (strOfNums xs)) w := by
  obtain ⟨hr, ⟨rfl, a, cap, e⟩ | ⟨b, off, cap, e, hB, hcs⟩⟩ := hb
  · cases e
    rw [run_convert_bytes_string w 22 9 5 _ 0 c Try.underlying22 Try.underlying5 Try.underlying9]
    cases A <;> simp [Conv.bytesToString, loadCells]
    all_goals rfl
  · cases e
    exact run_convert_bytes_arg w 22 5 Try.underlying22 Try.underlying5 b off _ c xs rfl hcs 9 Try.underlying9
theorem str_inj {xs ys : List Int} (hx : ∀ x ∈ xs, 0 ≤ x ∧ x < 256) (hy : ∀ y ∈ ys, 0 ≤ y ∧ y < 256) (h : strOfNums xs = strOfNums ys) : xs = ys := by
  have h1 := congrArg (fun s : ByteArray => s.data.toList) h
  simp only [strOfNums_data] at h1
  have inv : ∀ zs : List Int, (∀ z ∈ zs, 0 ≤ z ∧ z < 256) → (zs.map fun n => UInt8.ofNat n.toNat).map (fun u : UInt8 => (u.toNat : Int)) = zs := by
    intro zs hz
    rw [List.map_map]
    conv => rhs; rw [← List.map_id zs]
    apply List.map_congr_left
    intro z hzm
    have := hz z hzm
    simp only [Function.comp, UInt8.toNat_ofNat', id]
    omega
  rw [← inv xs hx, ← inv ys hy, h1]
end Go.Proofs.Ytfpgddkihlpafaa
