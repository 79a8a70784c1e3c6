/- Line. -/
import Derived.Test.YtmeamdfmcpkofaaDoorEFmt
import Derived.Test.YtmeamdfmcpkofaaDoorEPlain
import Derived.Test.YtmeamdfmcpkofaaDoorTText
import Derived.Lib.ItoaLen
set_option linter.unusedVariables false
set_option linter.unusedSimpArgs false
namespace Go.Proofs.YtmeamdfmcpkofaaDoor
open Go.RowKit Go.Shelf
attribute [local go_sem] Oper.semAt_some
abbrev strL (l : List UInt8) : Value := .string ⟨l.toArray⟩
def valsL (xs : List (List UInt8)) : List Value := xs.map strL
theorem valsL_one {xs : List (List UInt8)} : ∀ u ∈ valsL xs, u.oneCell' = true := by
  intro u hu
  obtain ⟨r, _, rfl⟩ := List.mem_map.1 hu
  rfl
def OwnL (base : Nat) (w : World) (v : Value) (xs : List (List UInt8)) : Prop := w.ownsRow base 9 1 v xs.length (valsL xs)
theorem OwnL.form {base : Nat} {w : World} {v : Value} {xs : List (List UInt8)} (h : OwnL base w v xs) : ∃ a c, v = .slice a xs.length c := by
  rcases h.2 with ⟨rfl, e⟩ | ⟨g, cap, cur, rfl, _⟩
  · exact ⟨none, 0, by rw [e]⟩
  · exact ⟨_, cap, rfl⟩
theorem OwnL.row {base : Nat} {w : World} {v : Value} {xs : List (List UInt8)} (h : OwnL base w v xs) : ∀ k, v.ownBlock = some k → base ≤ k ∧ k < w.heap.size := by
  intro k hk
  rcases h.2 with ⟨rfl, e⟩ | ⟨g, cap, cur, rfl, hg, hh, _⟩
  · simp [Value.ownBlock] at hk
  · simp [Value.ownBlock] at hk; subst hk; exact ⟨hg, (Array.getElem?_eq_some_iff.1 hh).1⟩
theorem OwnL.kept {base : Nat} {w w' : World} {v : Value} {xs : List (List UInt8)} (h : OwnL base w v xs) (hb : ∀ k, base ≤ k → k < w.heap.size → w'.heap[k]? = w.heap[k]?) : OwnL base w' v xs := by
  refine ⟨h.1, ?_⟩
  rcases h.2 with e | ⟨g, cap, cur, rfl, hg, hh, r⟩
  · exact .inl e
  · have hlt : g < w.heap.size := (Array.getElem?_eq_some_iff.1 hh).1
    exact .inr ⟨g, cap, cur, rfl, hg, (hb g hg hlt).trans hh, r⟩
theorem OwnL.below {base B : Nat} {w w' : World} {v : Value} {xs : List (List UInt8)} (h : OwnL base w v xs) (hb : Below B w w') (hB : w.heap.size ≤ B) : OwnL base w' v xs := h.kept (fun k _ hk => hb.block k (by omega))
theorem OwnL.cells {base n c : Nat} {a : Option Addr} {w : World} {xs : List (List UInt8)} (h : OwnL base w (.slice a n c) xs) (hne : 0 < xs.length) : ∃ g, a = some ⟨g, 0, none⟩ ∧ g < w.heap.size ∧ xs.length ≤ c ∧ ∀ (j : Nat) x, xs[j]? = some x → w.cell? ⟨g, 0 + j, none⟩ = some (strL x) := by
  rcases h.2 with ⟨e, e2⟩ | ⟨g, cap, cur, e, hg, hb, hn, hm, hs, ht⟩
  · omega
  · cases e
    refine ⟨g, rfl, (Array.getElem?_eq_some_iff.1 hb).1, hn, fun j x hx => ?_⟩
    have hj : j < xs.length := (List.getElem?_eq_some_iff.1 hx).1
    have e0 : (valsL xs)[j]? = some (strL x) := by simp [valsL, hx]
    rw [← ht, List.getElem?_take_of_lt (by omega)] at e0
    simp only [World.cell?, hb, Nat.zero_add]
    simpa using e0
theorem infoL : (Tryd.prog.info? 9).map (fun i => (i.zero, i.size, i.bytes)) = some (some (.string ⟨#[]⟩), 1, 16) := by kernel_rfl
theorem partsL : ∃ i, Tryd.prog.info? 9 = some i ∧ i.zero = some (.string ⟨#[]⟩) ∧ i.size = 1 ∧ i.bytes = 16 := by
  have h := infoL
  cases hi : Tryd.prog.info? 9 with
  | none => rw [hi] at h; cases h
  | some i => rw [hi] at h; simp at h; exact ⟨i, rfl, h.1, h.2.1, h.2.2⟩
theorem OwnL.le {base base' : Nat} {w : World} {v : Value} {xs : List (List UInt8)} (h : OwnL base w v xs) (hb : base' ≤ base) : OwnL base' w v xs :=
  ⟨h.1, h.2.elim Or.inl (fun ⟨g, cap, cur, hv, hg, r⟩ => Or.inr ⟨g, cap, cur, hv, Nat.le_trans hb hg, r⟩)⟩
theorem ownL_ne {base Bb : Nat} {w : World} {v : Value} {ys : List (List UInt8)} {T : TypeId} {cs : Array Value} (hA : At T w Bb cs) (hT : T ≠ 9) (hO : OwnL base w v ys) : some Bb ≠ v.ownBlock := by
  intro e
  rcases hO.2 with ⟨rfl, _⟩ | ⟨g, cap, cur, rfl, hg, hb, _⟩
  · simp [Value.ownBlock] at e
  · simp [Value.ownBlock] at e
    subst e
    unfold At at hA
    rw [hA] at hb
    cases hb
    exact hT rfl
/-- One more text. -/
theorem push_one {base Bb : Nat} {W : World} {v : Value} {ys : List (List UInt8)} (hA : At 48 W Bb #[v]) (hO : OwnL base W v ys) (hl : ys.length ≤ 1000) (hb : base ≤ W.heap.size) (y : List UInt8) :
    ∃ v' w', (Builtin.append_ #[48, 48] 48 #[v, .slice (some ⟨W.heap.size, 0, none⟩) 1 1]).run Tryd.prog (W.alloc (.cells #[strL y] 9)) = .ok v' w' ∧
      w'.cell? ⟨Bb, 0, none⟩ = some v ∧ w'.frozen? ⟨Bb, 0, none⟩ = false ∧ v'.oneCell' = true ∧ At 48 (w'.setCell ⟨Bb, 0, none⟩ v') Bb #[v'] ∧ OwnL base (w'.setCell ⟨Bb, 0, none⟩ v') v' (ys ++ [y]) ∧ (v'.ownBlock = v.ownBlock ∨ ∃ g, v'.ownBlock = some g ∧ W.heap.size ≤ g) ∧
      (w'.setCell ⟨Bb, 0, none⟩ v').os = W.os ∧ (w'.setCell ⟨Bb, 0, none⟩ v').tape = W.tape ∧ (w'.setCell ⟨Bb, 0, none⟩ v').output = W.output ∧ W.heap.size ≤ (w'.setCell ⟨Bb, 0, none⟩ v').heap.size ∧
      (∀ j, j < W.heap.size → j ≠ Bb → some j ≠ v.ownBlock → (w'.setCell ⟨Bb, 0, none⟩ v').heap[j]? = W.heap[j]?) ∧ ∀ j, j < W.heap.size → some j ≠ v.ownBlock → w'.heap[j]? = W.heap[j]? := by
  have hB : Below W.heap.size W (W.alloc (.cells #[strL y] 9)) := (Below.refl _ W).alloc (Nat.le_refl _) _
  have hc : (W.alloc (.cells #[strL y] 9)).cell? ⟨W.heap.size, 0, none⟩ = some (strL y) := cell_of_row _ _ 0 _ _ _ (World.alloc_heap_new W _)
  obtain ⟨i, hi, hzz, hsz, hby⟩ := partsL
  obtain ⟨v', w', hr, h1, h2, _, h3⟩ := run_append_own_at (P := Tryd.prog) (w := W.alloc (.cells #[strL y] 9)) base 48 48 9 i _ 1 16 Tryd.underlying48 hi hzz hsz hby rfl (by decide) v ys.length (valsL ys) (hO.below hB (Nat.le_refl _)) ⟨W.heap.size, 0, none⟩ 1 1 (valsL [y]) (by simp [valsL]) (fun j u hj => by
    match j, hj with
    | 0, hj => simp [valsL] at hj; subst hj; simp [Addr.add]
    | j + 1, hj => simp [valsL] at hj) valsL_one (by unfold maxLen; omega) (by omega) (Nat.le_trans hb hB.size)
  have hO' : OwnL base w' v' (ys ++ [y]) := by
    have e : valsL ys ++ valsL [y] = valsL (ys ++ [y]) := by simp [valsL]
    unfold OwnL
    rw [← e, List.length_append]
    exact h1
  have hne := ownL_ne hA (by decide) hO
  have hA1 : At 48 (W.alloc (.cells #[strL y] 9)) Bb #[v] := hA.alloc _
  have hA2 : At 48 w' Bb #[v] := (h2.block Bb hA1.lt hne).trans hA1
  have hne' : some Bb ≠ v'.ownBlock := ownL_ne hA2 (by decide) hO'
  have hs2 := h2.size
  simp only [World.size_alloc] at hs2
  refine ⟨v', w', hr, hA2.cell 0, hA2.free 0, ?_, hA2.set 0 v', ?_, ?_, h2.os, h2.tape, h2.output, by simp; omega, fun j hj hjb hjv => ?_, fun j hj hjv => (h2.block j (by simp; omega) hjv).trans (hB.block j hj)⟩
  · obtain ⟨a, c, rfl⟩ := hO'.form; rfl
  · refine ⟨hO'.1, ?_⟩
    rcases hO'.2 with e | ⟨g, cap, cur, rfl, hg, hh, r⟩
    · exact .inl e
    · refine .inr ⟨g, cap, cur, rfl, hg, (heap_setCell_other _ ⟨Bb, 0, none⟩ g _ (fun e => hne' (by simp [Value.ownBlock]; exact e.symm))).trans hh, r⟩
  · rcases h3 with e | e
    · exact .inl e
    · exact .inr ⟨_, e, by simp⟩
  · exact (heap_setCell_other _ ⟨Bb, 0, none⟩ j _ hjb).trans ((h2.block j (by simp; omega) hjv).trans (hB.block j hj))
def hexL (h : List Int) : List UInt8 := (strOfNums (texted h)).data.toList
theorem hexL_str (h : List Int) : Value.string (strOfNums (texted h)) = strL (hexL h) := by unfold hexL strL; rfl
def wordL (k : Nat) : List UInt8 := (wordS k).data.toList
theorem wordL_str (k : Nat) : Value.string (wordS k) = strL (wordL k) := rfl
/-- The piece of a field. -/
def pieceF (k : Nat) (x : En) (f : Nat) : List UInt8 := if f = 9 then hexL x.hash else textF k f (num x f)
def piecesL (k : Nat) (x : En) : List (List UInt8) := wordL k :: (layN k).map (pieceF k x)
def lineL (k : Nat) (x : En) : List UInt8 := Lib.join (piecesL k x) [32]
theorem hexL_len (h : List Int) : (hexL h).length = 64 := by unfold hexL strOfNums; simp [texted]
theorem textF_len (k f : Nat) {n : Int} (hn : 0 ≤ n ∧ n < 18446744073709551616) : (textF k f n).length ≤ 21 := by
  unfold textF
  split
  · have := s64_r hn
    exact Lib.itoa_length_le _ this.1 this.2
  · rw [Lib.decDigits_length]
    have := Lib.nDigits_le20 n.toNat (by omega)
    omega
theorem piece_len (k : Nat) {x : En} (hx : x.ok) (f : Nat) : (pieceF k x f).length ≤ 64 := by
  unfold pieceF
  split
  · rw [hexL_len]; exact Nat.le_refl _
  · have := textF_len k f (num_bd hx f); omega
theorem word_len (k : Nat) : (wordL k).length ≤ 64 := by
  unfold wordL wordS
  split <;> simp
theorem join_le64 : ∀ (xs : List (List UInt8)), (∀ x ∈ xs, x.length ≤ 64) → (Lib.join xs [32]).length ≤ 65 * xs.length
  | [], _ => by simp [Lib.join]
  | [x], h => by
    have := h x (by simp)
    simp [Lib.join]; omega
  | x :: y :: r, h => by
    have h1 := h x (by simp)
    have h2 := join_le64 (y :: r) (fun z hz => h z (by simp [hz]))
    have e : Lib.join (x :: y :: r) [32] = x ++ 32 :: Lib.join (y :: r) [32] := by simp [Lib.join, Lib.joinTail]
    rw [e, List.length_append, List.length_cons]
    simp only [List.length_cons] at h2 ⊢
    omega
theorem pieces_le (k : Nat) (hk : 1 ≤ k ∧ k < 6) {x : En} (hx : x.ok) : ∀ y ∈ piecesL k x, y.length ≤ 64 := fun y hy => by
  rcases List.mem_cons.1 hy with rfl | h
  · exact word_len k
  · obtain ⟨f, _, rfl⟩ := List.mem_map.1 h; exact piece_len k hx f
/-- Joined. -/
theorem join_any (a : Option Addr) (c : Nat) (xs : List (List UInt8)) (w : World) {base : Nat} (h : OwnL base w (.slice a xs.length c) xs) (hne : 0 < xs.length) (hl : xs.length ≤ 1000) (hx : ∀ x ∈ xs, x.length ≤ 64) :
    Calls Tryd.prog 35 #[.slice a xs.length c, .string ⟨#[32]⟩] w fun e w' => e = .returned (strL (Lib.join xs [32])) ∧ Below w.heap.size w w' := by
  obtain ⟨g, rfl, hg, hc, hcell⟩ := h.cells hne
  have e1 : (xs.map fun l => (⟨l.toArray⟩ : ByteArray)).map (·.data.toList) = xs := by rw [List.map_map]; exact (List.map_congr_left (fun _ _ => rfl)).trans (List.map_id xs)
  have hj := strings_Join g 0 c (xs.map fun l => (⟨l.toArray⟩ : ByteArray)) ⟨#[32]⟩ w (fun j x hx => by
    rw [List.getElem?_map] at hx
    cases hq : xs[j]? with
    | none => rw [hq] at hx; cases hx
    | some y => rw [hq] at hx; cases hx; exact hcell j y hq) hg (by simp; omega) (by simpa using hc) (by rw [e1]; have := join_le64 xs hx; show (Lib.join xs [32]).length ≤ _; omega)
  rw [e1] at hj
  simp only [List.length_map] at hj
  exact hj
structure Lx where
  (x h b : Nat)
structure LnAt (w : World) (N : Nat) (q : Lx) (x : En) (g : Nat → Int) (ls : List (List UInt8)) (c0 : Nat) (W : World) : Prop where
  en : At 27 W q.x (enV x)
  all : At 61 W q.h (nums .u64 9 g)
  row : ∃ v, At 48 W q.b #[v] ∧ OwnL w.heap.size W v ls ∧ ∃ c, v.ownBlock = some c ∧ (c = c0 ∨ N + 3 ≤ c)
  b : Below w.heap.size w W
structure Lx.Ok (q : Lx) (w : World) (N c0 : Nat) : Prop where
  x : w.heap.size ≤ q.x ∧ q.x < N
  h : w.heap.size ≤ q.h ∧ q.h < N ∧ q.h ≠ q.x
  b : w.heap.size ≤ q.b ∧ q.b < N ∧ q.b ≠ q.x ∧ q.b ≠ q.h
  v : w.heap.size ≤ c0 ∧ c0 < N ∧ c0 ≠ q.x ∧ c0 ≠ q.h ∧ c0 ≠ q.b
theorem LnAt.grown {w : World} {N : Nat} {q : Lx} {x : En} {g : Nat → Int} {ls : List (List UInt8)} {c0 : Nat} {W Y : World} {row : Option Nat} (h : LnAt w N q x g ls c0 W) (hq : q.Ok w N c0) (hg : W.grownBy Y row) (hr : ∀ r, row = some r → N ≤ r ∧ r ≤ N + 2) : LnAt w N q x g ls c0 Y := by
  have k : ∀ {T : TypeId} {b : Nat} {cs : Array Value}, b < N → At T W b cs → At T Y b cs := fun {T b cs} hb ha => (hg.block b ha.lt (fun e => by have := hr _ e.symm; omega)).trans ha
  obtain ⟨v, a1, a2, c, a3, a4⟩ := h.row
  refine ⟨k hq.x.2 h.en, k hq.h.2.1 h.all, ⟨v, k hq.b.2.1 a1, ?_, c, a3, a4⟩, h.b.trans ⟨hg.os, hg.tape, hg.output, hg.size, fun j hj => hg.block j (by have := h.b.size; omega) (fun e => by have := hr _ e.symm; have := hq.x; omega)⟩⟩
  refine ⟨a2.1, ?_⟩
  rcases a2.2 with e | ⟨c', cap, cur, rfl, hc, hh, r⟩
  · exact .inl e
  · refine .inr ⟨c', cap, cur, rfl, hc, (hg.block c' (Array.getElem?_eq_some_iff.1 hh).1 (fun e => ?_)).trans hh, r⟩
    have h1 := hr _ e.symm
    simp [Value.ownBlock] at a3
    have := hq.v
    omega
def LineE (x : En) (w : World) (e : Ending) (w' : World) : Prop := ((∃ k, May k x ∧ e = .returned (.tuple #[strL (lineL k x), .int .i64 0])) ∨ ((¬ ∃ k, May k x) ∧ e = .returned (.tuple #[.string ⟨#[]⟩, .int .i64 150]))) ∧ Below w.heap.size w w'
def LnI (w : World) (N : Nat) (q : Lx) (x : En) (k : Nat) (c0 : Nat) (pre : List Nat) (W : World) : Prop := LnAt w N q x (num x) (wordL k :: pre.map (pieceF k x)) c0 W
theorem results_ln {v : Value} {n : Int} {tmps : Array Value} {w : World} (h2 : tmps.getD 2 undef = v) (h3 : tmps.getD 3 undef = .int .i64 n) : (results Tryd.f16 tmps).run Tryd.prog w = .ok (.tuple #[v, .int .i64 n]) w := by
  simp only [Array.getD_eq_getD_getElem?] at h2 h3
  simp [results, Tryd.results16, go_sem, h2, h3]
/-- What a pushed piece leaves. -/
theorem LnAt.push {w : World} {N : Nat} {q : Lx} {x : En} {g : Nat → Int} {ls : List (List UInt8)} {c0 : Nat} {W Z Y : World} {v v' : Value} {y : List UInt8} (h : LnAt w N q x g ls c0 W) (hq : q.Ok w N c0) (hb : Below W.heap.size W Z) (hN : N + 3 ≤ W.heap.size) (hv : At 48 W q.b #[v])
    (p1 : At 48 Y q.b #[v']) (p2 : OwnL w.heap.size Y v' (ls ++ [y])) (p3 : v'.ownBlock = v.ownBlock ∨ ∃ g, v'.ownBlock = some g ∧ Z.heap.size ≤ g) (p4 : Y.os = Z.os) (p5 : Y.tape = Z.tape) (p6 : Y.output = Z.output) (p7 : Z.heap.size ≤ Y.heap.size)
    (p8 : ∀ j, j < Z.heap.size → j ≠ q.b → some j ≠ v.ownBlock → Y.heap[j]? = Z.heap[j]?) : LnAt w N q x g (ls ++ [y]) c0 Y ∧ Only (N + 3) (fun j => j = q.b ∨ j = c0) W Y := by
  obtain ⟨v2, a1, a2, c, a3, a4⟩ := h.row
  obtain rfl : v2 = v := by
    unfold At at a1 hv
    rw [hv] at a1
    cases a1
    rfl
  have hs := hb.size
  have keep : ∀ j, j < W.heap.size → j ≠ q.b → j ≠ c → Y.heap[j]? = W.heap[j]? := fun j hj h1 h2 => (p8 j (by omega) h1 (fun e => by rw [a3] at e; cases e; exact h2 rfl)).trans (hb.block j hj)
  have ka : ∀ {T : TypeId} {b : Nat} {cs : Array Value}, b < N → b ≠ q.b → b ≠ c0 → At T W b cs → At T Y b cs := fun {T b cs} h1 h2 h3 ha => (keep b ha.lt h2 (by omega)).trans ha
  refine ⟨⟨ka hq.x.2 (fun e => hq.b.2.2.1 e.symm) (fun e => hq.v.2.2.1 e.symm) h.en, ka hq.h.2.1 (fun e => hq.b.2.2.2 e.symm) (fun e => hq.v.2.2.2.1 e.symm) h.all, ⟨v', p1, p2, ?_⟩, ?_⟩, ⟨by omega, fun j hj hs' => ?_⟩⟩
  · rcases p3 with e | ⟨g', e, hg⟩
    · exact ⟨c, e.trans a3, a4⟩
    · exact ⟨g', e, .inr (by omega)⟩
  · refine h.b.trans ⟨p4.trans hb.os, p5.trans hb.tape, p6.trans hb.output, by omega, fun j hj => keep j (by have := h.b.size; omega) (by have := hq.b; omega) (by have := hq.v; have := hq.x; omega)⟩
  · have h' : ¬ (j = q.b ∨ j = c0) := hs'
    exact keep j (by omega) (fun e => h' (.inl e)) (by omega)
set_option maxRecDepth 100000 in
set_option maxHeartbeats 4000000 in
theorem line_any (x : En) (hx : x.ok) (w : World) (hT : TabE w) (hP : Pow w) : Calls Tryd.prog 16 #[.agg (enV x)] w (LineE x w) := by
  obtain ⟨W1, hW1⟩ : ∃ W1, W1 = w.alloc (.cells (enV x) 27) := ⟨_, rfl⟩
  have hB1 : Below w.heap.size w W1 := by rw [hW1]; exact (Below.refl _ w).alloc (Nat.le_refl _) _
  have hA1 : At 27 W1 w.heap.size (enV x) := by rw [hW1]; exact At.new _ _ _
  have HA1 := Lib.hid (And.intro hA1 hB1)
  have HCK := Lib.hid (check_any x hx W1 (hT.next hB1))
  have HX0 := Lib.hid hx
  have HT0 := Lib.hid hT
  have HP0 := Lib.hid hP
  have HT := Lib.hid (hT.next hB1)
  have HP := Lib.hid (hP.next hB1 (Nat.le_refl _))
  have HW := Lib.hid hW1
  clear hx hT hP hA1 hB1 hW1
  unfold LineE
  refine (callsIn_wide (n := 6)).1 ?_
  refine callsIn_of_wp_marks Tryd.func16 rfl trivial ?_ rfl
  simp only [Tryd.ntmps16, List.size_toArray, List.length_cons, List.length_nil, Nat.reduceAdd, Nat.reduceSub, Array.replicate_succ, Array.replicate_zero, List.push_toArray, List.append_toArray, List.nil_append, List.cons_append]
  gi_wp2_with (first | (refine wpListIn_val (fun _ => trivial) rfl (by intro c hc; cases hc) (exec_load rfl rfl (load_enV (g := w.heap.size) (X := x) (by rw [← HW.out]; exact HA1.out.1))) ?_) | fail)
  rw [← HW.out]
  refine ⟨trivial, ?_⟩
  refine (callsIn_wide.2 HCK.out).mono ?_
  rintro e W2 ⟨(⟨⟨k, m⟩, rfl⟩ | ⟨hno, rfl⟩), hB2⟩
  · have hA2 : At 27 W2 w.heap.size (enV x) := (hB2.block _ HA1.out.1.lt).trans HA1.out.1
    obtain ⟨g, hg⟩ : ∃ g, num x = g := ⟨_, rfl⟩
    have HNO := Lib.hid (fun W => by have h := numbersOf_any x HX0.out W; rw [hg, nums_lit] at h; exact h)
    have HG := Lib.hid hg
    have HA2 := Lib.hid hA2
    have HB2 := Lib.hid (HA1.out.2.trans (hB2.mono HA1.out.2.size))
    have HM := Lib.hid m
    clear hA2 hB2 m HCK hg
    gi_wp2_with (first | (refine wpListIn_val (fun _ => trivial) rfl (by intro c hc; cases hc) (exec_load rfl rfl (load_enV HA2.out)) ?_) | fail)
    refine ⟨trivial, ?_⟩
    refine (callsIn_wide.2 (HNO.out _)).mono ?_
    rintro e W3 ⟨rfl, hB3⟩
    clear HNO
    have hA3 : At 27 W3 w.heap.size (enV x) := (hB3.block _ HA2.out.lt).trans HA2.out
    have g0 : W3.cell? ⟨w.heap.size, 0, none⟩ = some (.int .i64 (k : Int)) := (hA3.cell 0).trans ((enV_get x).1.trans (by rw [HM.out.kind]))
    have hlt : w.heap.size < W3.heap.size := hA3.lt
    have HA3 := Lib.hid hA3
    have HB3 := Lib.hid (HB2.out.trans (hB3.mono HB2.out.size))
    have hk : 1 ≤ k ∧ k < 6 := ⟨HM.out.is.1, by have := HM.out.is; omega⟩
    have HK := Lib.hid hk
    have HNM := Lib.hid (fun W (h : TabE W) => (name_nat hk.2 ▸ name_any (k : Int) (by unfold R64; omega) W h : Calls Tryd.prog 20 #[.int .i64 (k : Int)] W fun e w' => e = .returned (.string (wordS k)) ∧ W = w'))
    obtain ⟨ws, hws⟩ : ∃ ws, wordS k = ws := ⟨_, rfl⟩
    rw [hws] at HNM
    have HWS := Lib.hid hws
    have HBA := Lib.hid (show Below W3.heap.size W3 (W3.alloc (.cells (nums .u64 9 g) 61)) from (Below.refl _ W3).alloc (Nat.le_refl _) _)
    have HBL := Lib.hid (show Below W3.heap.size W3 (W3.alloc (.cells (nums .u64 9 g) 61)) ∧ nums .u64 9 g = #[.int .u64 (g 0), .int .u64 (g 1), .int .u64 (g 2), .int .u64 (g 3), .int .u64 (g 4), .int .u64 (g 5), .int .u64 (g 6), .int .u64 (g 7), .int .u64 (g 8)] from ⟨HBA.out, nums_lit g⟩)
    clear hA3 hB3 hk hws
    gi_wp2_with fail
    refine ⟨trivial, ?_⟩
    refine (callsIn_wide.2 (HNM.out _ ((HT0.out.next HB3.out).next (by rw [← HBL.out.2]; exact HBL.out.1)))).mono ?_
    rintro e W ⟨rfl, rfl⟩
    clear HNM
    obtain ⟨V, hV⟩ : ∃ V, V = ((W3.alloc (.cells (nums .u64 9 g) 61)).alloc (.cells #[.string ws] 9)).alloc (.cells #[.slice (some ⟨W3.heap.size + 1, 0, none⟩) 1 1] 48) := ⟨_, rfl⟩
    have sV : V.heap.size = W3.heap.size + 3 := by rw [hV]; simp
    have hBV : Below W3.heap.size W3 V := by rw [hV]; exact (((Below.refl _ _).alloc (Nat.le_refl _) _).alloc (by simp) _).alloc (by simp; omega) _
    obtain ⟨X, hX⟩ : ∃ X, X = V.alloc (.cells #[.int .i64 (k : Int)] 3) := ⟨_, rfl⟩
    have sX : X.heap.size = W3.heap.size + 4 := by rw [hX, World.size_alloc, sV]
    have hBX : Below W3.heap.size W3 X := by rw [hX]; exact hBV.alloc (by omega) _
    have yk : X.heap[W3.heap.size + 3]? = some (.cells #[.int .i64 (k : Int)] 3 (0, 0)) := by rw [hX]; have := World.alloc_heap_new V (.cells #[.int .i64 (k : Int)] 3); rwa [sV] at this
    obtain ⟨q, hq⟩ : ∃ q : Lx, q = ⟨w.heap.size, W3.heap.size, W3.heap.size + 2⟩ := ⟨_, rfl⟩
    have hOk : q.Ok w (W3.heap.size + 3) (W3.heap.size + 1) := by
      rw [hq]
      refine ⟨⟨Nat.le_refl _, by show w.heap.size < _; omega⟩, ⟨by show _ ≤ W3.heap.size; omega, by show W3.heap.size < _; omega, by show W3.heap.size ≠ w.heap.size; omega⟩, ⟨by show _ ≤ W3.heap.size + 2; omega, by show W3.heap.size + 2 < _; omega, by show W3.heap.size + 2 ≠ w.heap.size; omega, by show W3.heap.size + 2 ≠ W3.heap.size; omega⟩, ⟨by omega, by omega, by show W3.heap.size + 1 ≠ w.heap.size; omega, by show W3.heap.size + 1 ≠ W3.heap.size; omega, by show W3.heap.size + 1 ≠ W3.heap.size + 2; omega⟩⟩
    have hLn : LnAt w (W3.heap.size + 3) q x g [wordL k] (W3.heap.size + 1) X := by
      rw [hq]
      refine ⟨(hBX.block _ hlt).trans HA3.out, by rw [hX, hV]; exact (((At.new _ _ _).alloc _).alloc _).alloc _, ⟨.slice (some ⟨W3.heap.size + 1, 0, none⟩) 1 1, by rw [hX, hV]; exact (at_third _ _ _ _).alloc _, ?_, W3.heap.size + 1, rfl, .inl rfl⟩, HB3.out.trans (hBX.mono HB3.out.size)⟩
      refine ⟨by simp [valsL], .inr ⟨W3.heap.size + 1, 1, #[.string ws], rfl, by omega, ?_, Nat.le_refl _, by simp [maxLen], by simp, by rw [← HWS.out]; simp [valsL, wordL_str]⟩⟩
      rw [hX, hV]
      exact ((at_second _ _ _).alloc _).alloc _
    have HAP := Lib.hid (fieldsOf_in (6 - 1) (k : Int) V)
    have HXX := Lib.hid hX
    have cV : V.cell? ⟨w.heap.size, 0, none⟩ = some (.int .i64 (k : Int)) := (hBV.cell (p := ⟨w.heap.size, 0, none⟩) (by show w.heap.size < _; omega)).trans g0
    have HX := Lib.hid (And.intro sX (And.intro hLn (And.intro hOk (And.intro yk (And.intro hq sV)))))
    simp only [nums_lit] at hV
    clear hBV sV hX sX hBX yk hOk hLn hq g0
    simp only []
    gi_step
    gi_step
    gi_step
    gi_step
    gi_step
    gi_step
    gi_step
    gi_step
    gi_step
    gi_step
    gi_step
    gi_step
    gi_step
    gi_step
    gi_step
    rw [← hV]
    clear hV
    gi_wp2_with fail
    refine ⟨trivial, ?_⟩
    refine HAP.out.mono ?_
    rintro e w' ⟨rfl, hw⟩
    obtain rfl : X = w' := HXX.out.trans hw.symm
    clear hw HXX HAP cV
    gi_wp2_with fail
    obtain ⟨sX, hLn, hOk, yk, hq, sV⟩ := HX.out
    rw [sV]
    refine wpIn_rangeFunc_box (gf := 49) (lb := #[.pointer (some ⟨W3.heap.size + 3, 0, none⟩)]) rfl (enters_of Tryd.func49 (by kernel_rfl) rfl)
      (layN k) (encF k) (W3.heap.size + 3) (by omega) (fun j => j = q.b ∨ j = W3.heap.size + 1)
      (fields_seq (6 - 1) (by omega) (W3.heap.size + 3) k HK.out.2 _ w HT0.out (fun j hj => by
        rw [hq] at hj
        rcases hj with e | e
        · rw [e]; exact ⟨by show _ ≤ W3.heap.size + 2; omega, by show W3.heap.size + 2 ≠ _; omega⟩
        · rw [e]; exact ⟨by omega, by omega⟩) X hLn.b yk) (fun _ => rfl) (fun j hj => by
        rcases hj with e | e
        · have := hOk.b.2.1; omega
        · omega)
      (LnI w (W3.heap.size + 3) q x k (W3.heap.size + 1)) (fun _ _ => False)
      (fun pre X' Y row hs' hg hr => LnAt.grown hs' hOk hg (fun r e => by have := hr r e; omega))
      (fun pre X' Y row hs' hg hr => hs'.elim)
      (by unfold LnI; rw [HG.out]; exact hLn)
      (fun pre f a₁ W' => ∃ B, a₁ = { tmps := #[.agg (enV x), .pointer (some ⟨w.heap.size, 0, none⟩), .string ⟨#[]⟩, .int .i64 0, .pointer (some ⟨W3.heap.size, 0, none⟩), .pointer (some ⟨W3.heap.size + 1 + 1, 0, none⟩), .pointer (some ⟨B, 0, none⟩), .agg (enV x), .int .i64 0, .bool false, .agg (enV x), .agg #[.int .u64 (g 0), .int .u64 (g 1), .int .u64 (g 2), .int .u64 (g 3), .int .u64 (g 4), .int .u64 (g 5), .int .u64 (g 6), .int .u64 (g 7), .int .u64 (g 8)], .pointer (some ⟨w.heap.size, 0, none⟩), .int .i64 (k : Int), .string ws, .slice (some ⟨W3.heap.size + 1, 0, none⟩) 1 1, .pointer (some ⟨w.heap.size, 0, none⟩), .int .i64 (k : Int), .func (.func 49) #[] #[.pointer (some ⟨W3.heap.size + 3, 0, none⟩)], .agg (fdV k f), undef, undef, undef, undef, undef, undef, undef, undef, undef, undef, undef, undef, undef, undef, undef, undef, undef, undef, undef, undef], defers := [] } ∧ X.heap.size + 2 ≤ B ∧ W'.heap[B]? = some (.cells (fdV k f) 66 (0, 0)))
      (fun pre f a₁ X' Y row hs hg hr => by
        obtain ⟨B, e1, e2, e3⟩ := hs
        exact ⟨B, e1, e2, (hg.block _ (Array.getElem?_eq_some_iff.1 e3).1 (fun e => by have := hr _ e.symm; omega)).trans e3⟩)
      ?assign ?body ?done ?stop
    case assign =>
      intro l pre f W K hsz hpre hI hK
      have HK2 := Lib.hid hK
      clear hK
      unfold encF fdV
      gi_wp2
      exact HK2.out _ _ ((Only.refl _ _ _).alloc hsz _) (LnAt.grown hI hOk (World.grownBy_alloc W _ none) (fun r e => by cases e)) ⟨W.heap.size, rfl, hsz, World.alloc_heap_new W _⟩
    case body =>
      rintro l pre f a₁ W hsz hpre hC ⟨B, rfl, hB, hBc⟩
      have hf : f ∈ layN k := hpre.subset (by simp)
      obtain ⟨j, hj, hjf⟩ := List.getElem_of_mem hf
      have hf10 : f < 10 := by
        have := lay_lt HK.out.2 hj
        rw [← hjf]
        simpa [List.getD, hj] using this
      have hpl : (wordL k :: pre.map (pieceF k x)).length ≤ 1000 := by
        have h1 := hpre.length_le
        have h2 := lay_len (k := k)
        simp at h1 ⊢
        omega
      obtain ⟨v, a1, a2, c, a3, a4⟩ := hC.row
      obtain ⟨ls, hls⟩ : ∃ ls, wordL k :: pre.map (pieceF k x) = ls := ⟨_, rfl⟩
      have HLS := Lib.hid hls
      unfold LnI at hC
      rw [hls] at hC a2 hpl
      unfold fdV at hBc
      have c0 : W.cell? ⟨B, 0, none⟩ = some (.int .i64 (f : Int)) := cell_of_row W B 0 _ _ _ hBc
      have c1 : W.cell? ⟨B, 1, none⟩ = some (.int .i64 (sizeN f : Int)) := cell_of_row W B 1 _ _ _ hBc
      have c2 : W.cell? ⟨B, 2, none⟩ = some (.int .u64 (mostN f)) := cell_of_row W B 2 _ _ _ hBc
      have c3 : W.cell? ⟨B, 3, none⟩ = some (.bool (signB k f)) := cell_of_row W B 3 _ _ _ hBc
      have eb : q.b = W3.heap.size + 2 := by rw [hq]
      have ex : q.x = w.heap.size := by rw [hq]
      have eh : q.h = W3.heap.size := by rw [hq]
      have a1' : At 48 W (W3.heap.size + 1 + 1) #[v] := by rw [eb] at a1; exact a1
      have hxe : At 27 W w.heap.size (enV x) := by have := hC.en; rwa [ex] at this
      have HBL := Lib.hid (show B < W.heap.size ∧ W3.heap.size + 1 + 1 < W.heap.size ∧ w.heap.size < W.heap.size from ⟨(Array.getElem?_eq_some_iff.1 hBc).1, a1'.lt, hxe.lt⟩)
      have HPUSH := Lib.hid (show ∀ (Z : World) (y : List UInt8), Below W.heap.size W.drew Z → ∃ v' w', (Builtin.append_ #[48, 48] 48 #[v, .slice (some ⟨Z.heap.size, 0, none⟩) 1 1]).run Tryd.prog (Z.alloc (.cells #[strL y] 9)) = .ok v' w' ∧
          w'.cell? ⟨W3.heap.size + 1 + 1, 0, none⟩ = some v ∧ w'.frozen? ⟨W3.heap.size + 1 + 1, 0, none⟩ = false ∧ v'.oneCell' = true ∧ (∀ j, j < W.heap.size → some j ≠ v.ownBlock → w'.heap[j]? = W.drew.heap[j]?) ∧ (pieceF k x f = y → boxPost (X.heap.size + 2) (fun j => j = q.b ∨ j = W3.heap.size + 1) (LnI w (W3.heap.size + 3) q x k (W3.heap.size + 1) (pre ++ [f])) (fun _ => False) W .normal { tmps := #[], defers := [] } (w'.setCell ⟨W3.heap.size + 1 + 1, 0, none⟩ v')) from by
        intro Z y hZ
        have hb : Below W.heap.size W Z := (below_drewN (Below.refl W.heap.size W) 1).trans hZ
        obtain ⟨v', w', r0, r1, r2, r3, r4, r5, r6, r7, r8, r9, r10, r11, r12⟩ := push_one (base := w.heap.size) (Bb := W3.heap.size + 1 + 1) (W := Z) (v := v) (ys := ls) ((hb.block _ a1'.lt).trans a1') (a2.below hb (Nat.le_refl _)) hpl (by have := hC.b.size; have := hb.size; omega) y
        refine ⟨v', w', r0, r1, r2, r3, fun j hj hv => (r12 j (by have := hb.size; omega) hv).trans (hZ.block j hj), fun hy => ?_⟩
        have e2 : W3.heap.size + 1 + 1 = q.b := by rw [eb]
        rw [e2] at r4 r11 ⊢
        rw [e2] at r5 r7 r8 r9 r10
        have hp := LnAt.push hC hOk hb (by omega) a1 r4 r5 r6 r7 r8 r9 r10 r11
        refine ⟨⟨hp.2.size, fun j hj hs => hp.2.block j (by omega) hs⟩, ?_⟩
        unfold LnI
        rw [List.map_append, ← List.cons_append, HLS.out, List.map_cons, List.map_nil, hy]
        exact hp.1)
      have hne1 : some w.heap.size ≠ v.ownBlock := ownL_ne hxe (by decide) a2
      have hne2 : some B ≠ v.ownBlock := ownL_ne (T := 66) hBc (by decide) a2
      have hne3 : some W3.heap.size ≠ v.ownBlock := ownL_ne (T := 61) (cs := nums .u64 9 (num x)) (by have := hC.all; rwa [eh] at this) (by decide) a2
      have HNE := Lib.hid (And.intro hne1 (And.intro hne2 hne3))
      clear hne1 hne2 hne3
      by_cases hf9 : f = 9
      · subst hf9
        replace c0 : W.cell? ⟨B, 0, none⟩ = some (.int .i64 9) := c0
        have HTX := Lib.hid (text_any x.hash HX0.out.bytes W.drew)
        have q1 : (fun Z : World => Z.cell? ⟨W3.heap.size + 1 + 1, 0, none⟩ = some v ∧ At 27 Z w.heap.size (enV x)) W.drew := ⟨a1'.cell 0, hxe⟩
        have HQ1 := Lib.hid q1
        clear c1 c2 c3 hf10 hpl hls hC a1 a2 a3 a4 hBc hsz hB hf hj hjf hpre yk hLn sX hOk sV eb ex eh a1' hxe hq q1
        gi_wp2_with fail
        have q1 := HQ1.out
        have HS2 := Lib.hid (show ∀ Z, Below W.heap.size W.drew Z → (fun Z : World => Z.cell? ⟨W3.heap.size + 1 + 1, 0, none⟩ = some v ∧ At 27 Z w.heap.size (enV x)) Z from fun Z hZ => ⟨(hZ.cell (p := ⟨W3.heap.size + 1 + 1, 0, none⟩) (show W3.heap.size + 1 + 1 < W.heap.size from HBL.out.2.1)).trans q1.1, (hZ.block w.heap.size HBL.out.2.2).trans q1.2⟩)
        refine regionLIn (fun Z : World => Z.cell? ⟨W3.heap.size + 1 + 1, 0, none⟩ = some v ∧ At 27 Z w.heap.size (enV x)) 6 (by kernel_rfl) (by kernel_rfl) ?_
        refine takeL (i := 0) (oi := { dst := some 23, op := Go.Op.load 48 (Go.Operand.tmp 5), type := 48, pos := "entry.go:160", after := #[], guard := none }) (v := v) [6, 5] rfl (by kernel_rfl) (by kernel_rfl) (by kernel_rfl) (by kernel_rfl) (fun _ _ _ h => only_panic h) rfl ?_ q1 ?_
        · intro Z hZ; have z0 := hZ.1; go_simp
        simp only [Act.put, List.setIfInBounds_toArray, List.set_cons_zero, List.set_cons_succ]
        refine takeL (i := 1) (oi := { dst := some 24, op := Go.Op.fieldAddr 27 (Go.Operand.tmp 1) 10, type := 0, pos := "entry.go:160", after := #[], guard := none }) (v := .pointer (some ⟨w.heap.size, 10, none⟩)) [6, 5, 4, 3, 2] rfl (by kernel_rfl) (by kernel_rfl) (by kernel_rfl) (by kernel_rfl) (fun _ _ _ h => only_panic h) rfl ?_ q1 ?_
        · intro Z hZ; go_simp
        simp only [Act.put, List.setIfInBounds_toArray, List.set_cons_zero, List.set_cons_succ]
        refine takeL (i := 2) (oi := { dst := some 25, op := Go.Op.load 25 (Go.Operand.tmp 24), type := 25, pos := "entry.go:160", after := #[{ on := 1, ground := Go.Ground.data }], guard := none }) (v := .agg (nums .u8 32 (bf x.hash))) [6, 5, 4, 3] rfl (by kernel_rfl) (by kernel_rfl) (by kernel_rfl) (by kernel_rfl) (fun _ _ _ h => only_panic h) rfl ?_ q1 ?_
        · exact fun Z hZ => exec_load rfl rfl (load_hash10 hZ.2)
        simp only [Act.put, List.setIfInBounds_toArray, List.set_cons_zero, List.set_cons_succ]
        refine oneL (i := 3) (o := { dst := some 26, op := Go.Op.call { callee := Go.Callee.value (Go.Operand.func 33), args := #[Go.Operand.tmp 25], argTypes := #[25] }, type := 9, pos := "entry.go:160", after := #[{ on := 2, ground := Go.Ground.data }], guard := none }) rfl (by kernel_rfl) rfl ?_
        refine wp_by_call (f := 33) (args := #[.agg (nums .u8 32 (bf x.hash))]) (by go_simp) (HTX.out.mono ?_)
        rintro e Z ⟨rfl, hZ⟩
        rw [hexL_str]
        refine ⟨_, rfl, (fun _ => HS2.out Z hZ), ?_⟩
        simp only [Act.put, List.setIfInBounds_toArray, List.set_cons_zero, List.set_cons_succ]
        refine oneL (i := 4) (o := { dst := some 27, op := Go.Op.buildSlice 48 1 #[(0, Go.Operand.tmp 26)], type := 48, pos := "entry.go:160", after := #[{ on := 3, ground := Go.Ground.data }], guard := none }) rfl (by kernel_rfl) rfl ?_
        refine wp_by_run (w' := Z.alloc (.cells #[strL (hexL x.hash)] 9)) (v := .slice (some ⟨Z.heap.size, 0, none⟩) 1 1) (by go_simp) ⟨fun _ => HS2.out _ (hZ.alloc hZ.size _), ?_⟩
        simp only [Act.put, List.setIfInBounds_toArray, List.set_cons_zero, List.set_cons_succ]
        obtain ⟨v', w', hr, k0, kf, k1, hkp, hPO⟩ := HPUSH.out Z (hexL x.hash) hZ
        have HPO := Lib.hid hPO
        refine oneL (i := 5) (o := { dst := some 28, op := Go.Op.call { callee := Go.Callee.builtin Go.Builtin.append, args := #[Go.Operand.tmp 23, Go.Operand.tmp 27], argTypes := #[48, 48] }, type := 48, pos := "entry.go:160", after := #[{ on := 0, ground := Go.Ground.data }, { on := 4, ground := Go.Ground.data }, { on := 3, ground := Go.Ground.chain }], guard := none }) rfl (by kernel_rfl) rfl ?_
        refine wp_by_run (w' := w') (v := v') (exec_append rfl rfl rfl hr) ⟨fun _ => ⟨k0, (hkp _ HBL.out.2.2 HNE.out.1).trans q1.2⟩, ?_⟩
        simp only [Act.put, List.setIfInBounds_toArray, List.set_cons_zero, List.set_cons_succ]
        refine oneL (i := 6) (o := { dst := none, op := Go.Op.store 48 (Go.Operand.tmp 5) (Go.Operand.tmp 28), type := 0, pos := "entry.go:160", after := #[{ on := 5, ground := Go.Ground.data }, { on := 5, ground := Go.Ground.chain }, { on := 0, ground := Go.Ground.phase }, { on := 1, ground := Go.Ground.phase }, { on := 2, ground := Go.Ground.phase }, { on := 3, ground := Go.Ground.phase }, { on := 4, ground := Go.Ground.phase }, { on := 5, ground := Go.Ground.phase }], guard := none }) rfl (by kernel_rfl) rfl ?_
        refine wp_by_skip (w' := w'.setCell ⟨W3.heap.size + 1 + 1, 0, none⟩ v') (exec_store rfl rfl rfl k0 kf k1 (by kernel_rfl)) ⟨fun h => absurd rfl h, ?_⟩
        simp only [Act.put, List.setIfInBounds_toArray, List.set_cons_zero, List.set_cons_succ]
        clear hr k0 kf k1 hkp hPO hZ q1
        refine doneL (by kernel_rfl) (⟨rfl, ?_⟩) _
        gi_wp2
        exact (HPO.out (by unfold pieceF; rw [if_pos rfl]))
      · have hf8 : f < 9 := by omega
        have g9 : ((f : Int) == 9) = false := by simp; omega
        have f0 : (0 : Int) ≤ (f : Int) := by omega
        have f9 : (f : Int) < 9 := by omega
        have hgb : 0 ≤ g f ∧ g f < 18446744073709551616 := by rw [← HG.out]; exact num_bd HX0.out f
        have ha := hC.all
        rw [eh, HG.out] at ha
        have hPW : Pow W := HP0.out.next hC.b (Nat.le_refl _)
        have HTX := Lib.hid (text_field k f (g f) hgb W.drew (hPW.next (below_drewN (Below.refl W.heap.size W) 1) (Nat.le_refl _)))
        have HFD : Hid (fdV k f = #[.int .i64 (f : Int), .int .i64 (sizeN f : Int), .int .u64 (mostN f), .bool (signB k f)]) := Lib.hid rfl
        have HPC := Lib.hid (show pieceF k x f = textF k f (g f) by unfold pieceF; rw [if_neg hf9, HG.out])
        have q1 : (fun Z : World => Z.cell? ⟨W3.heap.size + 1 + 1, 0, none⟩ = some v ∧ Z.cell? ⟨B, 0, none⟩ = some (.int .i64 (f : Int)) ∧ Z.cell? ⟨B, 1, none⟩ = some (.int .i64 (sizeN f : Int)) ∧ Z.cell? ⟨B, 2, none⟩ = some (.int .u64 (mostN f)) ∧ Z.cell? ⟨B, 3, none⟩ = some (.bool (signB k f)) ∧ Z.cell? ⟨W3.heap.size, f, none⟩ = some (.int .u64 (g f))) W.drew := ⟨a1'.cell 0, c0, c1, c2, c3, ha.num f hf8⟩
        have HQ1 := Lib.hid q1
        have HLW := Lib.hid (show W3.heap.size < W.heap.size from ha.lt)
        clear c1 c2 c3 hf10 hpl hls hC a1 a2 a3 a4 hBc hsz hB hf hj hjf hpre yk hLn sX hOk sV eb ex eh a1' hxe hq q1 ha hPW hgb hf9
        gi_wp2_with fail
        have q1 := HQ1.out
        have HS2 := Lib.hid (show ∀ Z, Below W.heap.size W.drew Z → (fun Z : World => Z.cell? ⟨W3.heap.size + 1 + 1, 0, none⟩ = some v ∧ Z.cell? ⟨B, 0, none⟩ = some (.int .i64 (f : Int)) ∧ Z.cell? ⟨B, 1, none⟩ = some (.int .i64 (sizeN f : Int)) ∧ Z.cell? ⟨B, 2, none⟩ = some (.int .u64 (mostN f)) ∧ Z.cell? ⟨B, 3, none⟩ = some (.bool (signB k f)) ∧ Z.cell? ⟨W3.heap.size, f, none⟩ = some (.int .u64 (g f))) Z from fun Z hZ => ⟨(hZ.cell (p := ⟨W3.heap.size + 1 + 1, 0, none⟩) (show W3.heap.size + 1 + 1 < W.heap.size from HBL.out.2.1)).trans q1.1, (hZ.cell (p := ⟨B, 0, none⟩) (show B < W.heap.size from HBL.out.1)).trans q1.2.1, (hZ.cell (p := ⟨B, 1, none⟩) (show B < W.heap.size from HBL.out.1)).trans q1.2.2.1, (hZ.cell (p := ⟨B, 2, none⟩) (show B < W.heap.size from HBL.out.1)).trans q1.2.2.2.1, (hZ.cell (p := ⟨B, 3, none⟩) (show B < W.heap.size from HBL.out.1)).trans q1.2.2.2.2.1, (hZ.cell (p := ⟨W3.heap.size, f, none⟩) (show W3.heap.size < W.heap.size from HLW.out)).trans q1.2.2.2.2.2⟩)
        refine regionLIn (fun Z : World => Z.cell? ⟨W3.heap.size + 1 + 1, 0, none⟩ = some v ∧ Z.cell? ⟨B, 0, none⟩ = some (.int .i64 (f : Int)) ∧ Z.cell? ⟨B, 1, none⟩ = some (.int .i64 (sizeN f : Int)) ∧ Z.cell? ⟨B, 2, none⟩ = some (.int .u64 (mostN f)) ∧ Z.cell? ⟨B, 3, none⟩ = some (.bool (signB k f)) ∧ Z.cell? ⟨W3.heap.size, f, none⟩ = some (.int .u64 (g f))) 9 (by kernel_rfl) (by kernel_rfl) ?_
        refine takeL (i := 0) (oi := { dst := some 29, op := Go.Op.load 48 (Go.Operand.tmp 5), type := 48, pos := "entry.go:163", after := #[], guard := none }) (v := v) [9, 8] rfl (by kernel_rfl) (by kernel_rfl) (by kernel_rfl) (by kernel_rfl) (fun _ _ _ h => only_panic h) rfl ?_ q1 ?_
        · intro Z hZ; obtain ⟨z0, z1, z2, z3, z4, z5⟩ := hZ; go_simp
        simp only [Act.put, List.setIfInBounds_toArray, List.set_cons_zero, List.set_cons_succ]
        refine takeL (i := 1) (oi := { dst := some 30, op := Go.Op.load 66 (Go.Operand.tmp 6), type := 66, pos := "entry.go:163", after := #[], guard := none }) (v := .agg (fdV k f)) [9, 8, 7, 6] rfl (by kernel_rfl) (by kernel_rfl) (by kernel_rfl) (by kernel_rfl) (fun _ _ _ h => only_panic h) rfl ?_ q1 ?_
        · intro Z hZ; obtain ⟨z0, z1, z2, z3, z4, z5⟩ := hZ; rw [HFD.out]; go_simp
        simp only [Act.put, List.setIfInBounds_toArray, List.set_cons_zero, List.set_cons_succ]
        refine takeL (i := 2) (oi := { dst := some 31, op := Go.Op.fieldAddr 66 (Go.Operand.tmp 6) 0, type := 0, pos := "entry.go:163", after := #[], guard := none }) (v := .pointer (some ⟨B, 0, none⟩)) [9, 8, 7, 6, 5, 4, 3] rfl (by kernel_rfl) (by kernel_rfl) (by kernel_rfl) (by kernel_rfl) (fun _ _ _ h => only_panic h) rfl ?_ q1 ?_
        · intro Z hZ; go_simp
        simp only [Act.put, List.setIfInBounds_toArray, List.set_cons_zero, List.set_cons_succ]
        refine takeL (i := 3) (oi := { dst := some 32, op := Go.Op.load 3 (Go.Operand.tmp 31), type := 3, pos := "entry.go:163", after := #[{ on := 2, ground := Go.Ground.data }], guard := none }) (v := .int .i64 (f : Int)) [9, 8, 7, 6, 5, 4] rfl (by kernel_rfl) (by kernel_rfl) (by kernel_rfl) (by kernel_rfl) (fun _ _ _ h => only_panic h) rfl ?_ q1 ?_
        · intro Z hZ; obtain ⟨z0, z1, z2, z3, z4, z5⟩ := hZ; go_simp
        simp only [Act.put, List.setIfInBounds_toArray, List.set_cons_zero, List.set_cons_succ]
        refine takeL (i := 4) (oi := { dst := some 33, op := Go.Op.indexAddr 61 (Go.Operand.tmp 4) (Go.Operand.tmp 32), type := 0, pos := "entry.go:163", after := #[{ on := 3, ground := Go.Ground.data }], guard := none }) (v := .pointer (some ⟨W3.heap.size, f, none⟩)) [9, 8, 7, 6, 5] rfl (by kernel_rfl) (by kernel_rfl) (by kernel_rfl) (by kernel_rfl) (fun _ _ _ h => only_panic h) rfl ?_ q1 ?_
        · intro Z hZ; go_simp
        simp only [Act.put, List.setIfInBounds_toArray, List.set_cons_zero, List.set_cons_succ]
        refine takeL (i := 5) (oi := { dst := some 34, op := Go.Op.load 23 (Go.Operand.tmp 33), type := 23, pos := "entry.go:163", after := #[{ on := 4, ground := Go.Ground.data }], guard := none }) (v := .int .u64 (g f)) [9, 8, 7, 6] rfl (by kernel_rfl) (by kernel_rfl) (by kernel_rfl) (by kernel_rfl) (fun _ _ _ h => only_panic h) rfl ?_ q1 ?_
        · intro Z hZ; obtain ⟨z0, z1, z2, z3, z4, z5⟩ := hZ; go_simp
        simp only [Act.put, List.setIfInBounds_toArray, List.set_cons_zero, List.set_cons_succ]
        refine oneL (i := 6) (o := { dst := some 35, op := Go.Op.call { callee := Go.Callee.value (Go.Operand.func 34), args := #[Go.Operand.tmp 30, Go.Operand.tmp 34], argTypes := #[66, 23] }, type := 9, pos := "entry.go:163", after := #[{ on := 1, ground := Go.Ground.data }, { on := 5, ground := Go.Ground.data }], guard := none }) rfl (by kernel_rfl) rfl ?_
        refine wp_by_call (f := 34) (args := #[.agg (fdV k f), .int .u64 (g f)]) (by go_simp) (HTX.out.mono ?_)
        rintro e Z ⟨rfl, hZ⟩
        refine ⟨_, rfl, (fun _ => HS2.out Z hZ), ?_⟩
        simp only [Act.put, List.setIfInBounds_toArray, List.set_cons_zero, List.set_cons_succ]
        refine oneL (i := 7) (o := { dst := some 36, op := Go.Op.buildSlice 48 1 #[(0, Go.Operand.tmp 35)], type := 48, pos := "entry.go:163", after := #[{ on := 6, ground := Go.Ground.data }], guard := none }) rfl (by kernel_rfl) rfl ?_
        refine wp_by_run (w' := Z.alloc (.cells #[strL (textF k f (g f))] 9)) (v := .slice (some ⟨Z.heap.size, 0, none⟩) 1 1) (by go_simp) ⟨fun _ => HS2.out _ (hZ.alloc hZ.size _), ?_⟩
        simp only [Act.put, List.setIfInBounds_toArray, List.set_cons_zero, List.set_cons_succ]
        obtain ⟨v', w', hr, k0, kf, k1, hkp, hPO⟩ := HPUSH.out Z (textF k f (g f)) hZ
        have HPO := Lib.hid hPO
        refine oneL (i := 8) (o := { dst := some 37, op := Go.Op.call { callee := Go.Callee.builtin Go.Builtin.append, args := #[Go.Operand.tmp 29, Go.Operand.tmp 36], argTypes := #[48, 48] }, type := 48, pos := "entry.go:163", after := #[{ on := 0, ground := Go.Ground.data }, { on := 7, ground := Go.Ground.data }, { on := 6, ground := Go.Ground.chain }], guard := none }) rfl (by kernel_rfl) rfl ?_
        refine wp_by_run (w' := w') (v := v') (exec_append rfl rfl rfl hr) ⟨fun _ => ⟨k0, (World.cell?_of_block (a := ⟨B, 0, none⟩) (hkp _ HBL.out.1 HNE.out.2.1)).trans q1.2.1, (World.cell?_of_block (a := ⟨B, 1, none⟩) (hkp _ HBL.out.1 HNE.out.2.1)).trans q1.2.2.1, (World.cell?_of_block (a := ⟨B, 2, none⟩) (hkp _ HBL.out.1 HNE.out.2.1)).trans q1.2.2.2.1, (World.cell?_of_block (a := ⟨B, 3, none⟩) (hkp _ HBL.out.1 HNE.out.2.1)).trans q1.2.2.2.2.1, (World.cell?_of_block (a := ⟨W3.heap.size, f, none⟩) (hkp _ HLW.out HNE.out.2.2)).trans q1.2.2.2.2.2⟩, ?_⟩
        simp only [Act.put, List.setIfInBounds_toArray, List.set_cons_zero, List.set_cons_succ]
        refine oneL (i := 9) (o := { dst := none, op := Go.Op.store 48 (Go.Operand.tmp 5) (Go.Operand.tmp 37), type := 0, pos := "entry.go:163", after := #[{ on := 8, ground := Go.Ground.data }, { on := 8, ground := Go.Ground.chain }, { on := 0, ground := Go.Ground.phase }, { on := 1, ground := Go.Ground.phase }, { on := 2, ground := Go.Ground.phase }, { on := 3, ground := Go.Ground.phase }, { on := 4, ground := Go.Ground.phase }, { on := 5, ground := Go.Ground.phase }, { on := 6, ground := Go.Ground.phase }, { on := 7, ground := Go.Ground.phase }, { on := 8, ground := Go.Ground.phase }], guard := none }) rfl (by kernel_rfl) rfl ?_
        refine wp_by_skip (w' := w'.setCell ⟨W3.heap.size + 1 + 1, 0, none⟩ v') (exec_store rfl rfl rfl k0 kf k1 (by kernel_rfl)) ⟨fun h => absurd rfl h, ?_⟩
        simp only [Act.put, List.setIfInBounds_toArray, List.set_cons_zero, List.set_cons_succ]
        clear hr k0 kf k1 hkp hPO hZ q1
        refine doneL (by kernel_rfl) (⟨rfl, ?_⟩) _
        gi_wp2
        exact (HPO.out HPC.out)
    case done =>
      rintro D W hge hC hD
      obtain ⟨v, a1, a2, c, a3, a4⟩ := hC.row
      obtain ⟨n, hn⟩ : ∃ n, (piecesL k x).length = n := ⟨_, rfl⟩
      have a2' : OwnL w.heap.size W v (piecesL k x) := a2
      obtain ⟨va, vc, rfl⟩ := a2'.form
      have hj := join_any va vc (piecesL k x) W a2' (by unfold piecesL; simp) (by unfold piecesL; have := lay_len (k := k); simp; omega) (pieces_le k HK.out HX0.out)
      rw [hn] at hj a1
      have HJ := Lib.hid hj
      have eb : q.b = W3.heap.size + 2 := by rw [hq]
      have k0 : W.cell? ⟨W3.heap.size + 1 + 1, 0, none⟩ = some (.slice va n vc) := by rw [eb] at a1; exact a1.cell 0
      have HBW := Lib.hid hC.b
      have HD := Lib.hid hD
      have HGE := Lib.hid (show w.heap.size ≤ D by omega)
      clear hC a1 a2 a2' a3 a4 hj hge hD yk hLn sX hOk sV eb hn hq
      gi_wp2_with fail
      refine ⟨trivial, ?_⟩
      refine (callsIn_wide.2 HJ.out).mono ?_
      rintro e W5 ⟨rfl, hB5⟩
      have HD5 := Lib.hid ((hB5.block D (Array.getElem?_eq_some_iff.1 HD.out).1).trans HD.out)
      have HB5 := Lib.hid (HBW.out.trans (hB5.mono HBW.out.size))
      clear hB5 HJ k0
      gi_wp2
      refine ⟨by simp, .inl ⟨_, _, rfl, run_takeDeferred HD5.out, ?_⟩⟩
      exact ⟨.tuple #[strL (lineL k x), .int .i64 0], results_ln rfl rfl, .inl ⟨k, HM.out, rfl⟩, HB5.out.trans (belowK_b (w := w) (Nat.le_refl _) _ D _ _ HGE.out HD5.out rfl rfl)⟩
    case stop =>
      rintro D pre W _ _ hF _
      exact hF.elim
  · have HNO := Lib.hid hno
    have HB2 := Lib.hid (HA1.out.2.trans (hB2.mono HA1.out.2.size))
    clear hno hB2 HCK
    gi_wp2
    exact ⟨.tuple #[.string ⟨#[]⟩, .int .i64 150], results_ln rfl rfl, .inr ⟨HNO.out, rfl⟩, HB2.out⟩
end Go.Proofs.YtmeamdfmcpkofaaDoor
