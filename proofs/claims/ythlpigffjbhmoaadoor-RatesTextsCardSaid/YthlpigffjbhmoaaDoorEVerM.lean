/- What a line says, as the program reads it. -/
import Derived.Test.YthlpigffjbhmoaaDoorELinesOf
import Derived.Test.YthlpigffjbhmoaaDoorEFmt
set_option linter.unusedVariables false
set_option linter.unusedSimpArgs false
namespace Go.Proofs.YthlpigffjbhmoaaDoor
open Go.RowKit Go.Shelf
def VerIs (s : List UInt8) (v : Ve) (ok : Bool) : Prop := (ok = true → Ver64 v ∧ s = lineL v ∧ v.ps.length ≤ 16) ∧ (ok = false → ∀ u, VerMay u → s ≠ lineL u)
def ReadP (pre : List (List UInt8)) (ps : List Int) : Prop := pre = ps.map Lib.itoa ∧ (∀ p ∈ ps, I64 p) ∧ ps.length ≤ 16
def BadP (pre : List (List UInt8)) : Prop := (∃ q p, pre = q ++ [p] ∧ ∀ m, I64 m → p ≠ Lib.itoa m) ∨ 16 < pre.length
theorem ps_ne {u : Ve} (h : VerMay u) : u.ps ≠ [] := by
  intro e
  have := h.2.1.1
  rw [e] at this
  simp at this
theorem body_of {v : Ve} (h : v.ps ≠ []) : bodyL v = Lib.itoa v.f ++ 32 :: Lib.join (v.ps.map Lib.itoa) [32] := by
  unfold bodyL
  rw [body_join]
  cases hp : v.ps with
  | nil => exact absurd hp h
  | cons p r => rw [List.map_cons, List.map_cons, join_two]
theorem ver_nosuf {s : List UInt8} (h : Lib.hasSuffix s [10] = false) : ∀ u, s ≠ lineL u := by
  intro u e
  have : Lib.hasSuffix s [10] = true := List.isSuffixOf_iff_suffix.2 ⟨bodyL u, by rw [e]; rfl⟩
  rw [h] at this
  cases this
theorem suf_yes {s : List UInt8} (h : Lib.hasSuffix s [10] = true) : ∃ c, s = c ++ [10] ∧ Lib.trimSuffix s [10] = c := by
  obtain ⟨c, rfl⟩ := List.isSuffixOf_iff_suffix.1 h
  refine ⟨c, rfl, ?_⟩
  unfold Lib.trimSuffix
  rw [if_pos h]
  simp
theorem line_body {c : List UInt8} {u : Ve} (e : c ++ [10] = lineL u) : c = bodyL u := List.append_cancel_right e
theorem ver_nocut {c : List UInt8} (h : (32 : UInt8) ∉ c) : ∀ u, VerMay u → c ++ [10] ≠ lineL u := by
  intro u hu e
  rw [line_body e, body_of (ps_ne hu)] at h
  simp at h
theorem ver_cut {a b : List UInt8} (ha : (32 : UInt8) ∉ a) {u : Ve} (hu : VerMay u) (e : (a ++ 32 :: b) ++ [10] = lineL u) : a = Lib.itoa u.f ∧ pieces b = u.ps.map Lib.itoa := by
  have h1 := line_body e
  rw [body_of (ps_ne hu)] at h1
  obtain ⟨rfl, rfl⟩ := split_unique ha (itoa_no (.inl rfl)) h1
  exact ⟨rfl, pieces_join (by simpa using ps_ne hu) (fun x hx => by obtain ⟨y, _, rfl⟩ := List.mem_map.1 hx; exact itoa_no (.inl rfl))⟩
theorem ver_nofrom {a b : List UInt8} (ha : (32 : UInt8) ∉ a) (hn : ∀ m, I64 m → a ≠ Lib.itoa m) : ∀ u, VerMay u → (a ++ 32 :: b) ++ [10] ≠ lineL u :=
  fun u hu e => hn u.f (ver_64 hu).1 (ver_cut ha hu e).1
theorem ver_bad {a b : List UInt8} (ha : (32 : UInt8) ∉ a) {pre : List (List UInt8)} (hp : pre <+: pieces b) (hb : BadP pre) : ∀ u, VerMay u → (a ++ 32 :: b) ++ [10] ≠ lineL u := by
  intro u hu e
  obtain ⟨t, ht⟩ := hp
  rw [(ver_cut ha hu e).2] at ht
  rcases hb with ⟨q, p, rfl, hn⟩ | hl
  · have hm : p ∈ u.ps.map Lib.itoa := by rw [← ht]; simp
    obtain ⟨y, hy, rfl⟩ := List.mem_map.1 hm
    exact hn y ((ver_64 hu).2 y hy) rfl
  · have h1 := congrArg List.length ht
    have h2 := hu.2.1.2
    simp at h1
    omega
theorem ver_yes {a b : List UInt8} {n : Int} {ps : List Int} (ha : I64 n ∧ a = Lib.itoa n) (hr : ReadP (pieces b) ps) : VerIs ((a ++ 32 :: b) ++ [10]) ⟨n, ps⟩ true := by
  refine ⟨fun _ => ⟨⟨ha.1, hr.2.1⟩, ?_, hr.2.2⟩, fun h => by cases h⟩
  have hne : ps ≠ [] := by
    rintro rfl
    exact pieces_ne b hr.1
  show _ = bodyL ⟨n, ps⟩ ++ [10]
  rw [body_of (v := ⟨n, ps⟩) hne, ha.2]
  show _ = (Lib.itoa n ++ 32 :: Lib.join (ps.map Lib.itoa) [32]) ++ [10]
  rw [← hr.1, join_pieces]
theorem readP_nil : ReadP [] [] := ⟨rfl, (fun p hp => nomatch hp), Nat.zero_le _⟩
theorem readP_snoc {pre : List (List UInt8)} {ps : List Int} {x : List UInt8} {y : Int} (h : ReadP pre ps) (hy : I64 y ∧ x = Lib.itoa y) (hl : ps.length ≠ 16) : ReadP (pre ++ [x]) (ps ++ [y]) := by
  obtain ⟨h1, h2, h3⟩ := h
  refine ⟨by rw [h1, hy.2]; simp, fun z hz => ?_, by simp; omega⟩
  rcases List.mem_append.1 hz with q | q
  · exact h2 z q
  · rw [List.mem_singleton.1 q]; exact hy.1
theorem suffix_any (s : List UInt8) (hs : s.length ≤ 1000000) (w : World) : Calls Tryd.prog 44 #[strL s, .string ⟨#[10]⟩] w fun e w' => e = .returned (.tuple #[strL (Lib.trimSuffix s [10]), .bool (Lib.hasSuffix s [10])]) ∧ w = w' :=
  (strings_CutSuffix ⟨s.toArray⟩ ⟨#[10]⟩ w (by show s.toArray.size ≤ _; simp; omega)).mono fun e w' h => ⟨h.1, h.2.symm⟩
theorem cut_any (s : List UInt8) (hs : s.length ≤ 1000000) (w : World) (hT : TabsD w) : Calls Tryd.prog 45 #[strL s, .string ⟨#[32]⟩] w fun e w' => e = .returned (.tuple #[strL (Lib.cut s [32]).1, strL (Lib.cut s [32]).2.1, .bool (Lib.cut s [32]).2.2]) ∧ Below w.heap.size w w' := by
  obtain ⟨m, hm⟩ := hT.ml
  refine (strings_Cut ⟨s.toArray⟩ ⟨#[32]⟩ m w (by show s.toArray.size < _; simp; omega) hm).mono ?_
  rintro e w' ⟨rfl, k, rfl⟩
  exact ⟨rfl, below_drew' w k⟩
theorem results_v {f : Int} {a : Option Addr} {m c : Nat} {ok : Bool} {b b' : Nat} {tmps : Array Value} {w : World} (h2 : tmps.getD 2 undef = .pointer (some ⟨b, 0, none⟩)) (h3 : tmps.getD 3 undef = .pointer (some ⟨b', 0, none⟩))
    (hb : w.heap[b]? = some (.cells #[.int .i64 f, .slice a m c] 42 (0, 0))) (hc : w.heap[b']? = some (.cells #[.bool ok] 4 (0, 0))) : (results Tryd.f29 tmps).run Tryd.prog w = .ok (.tuple #[verV f a m c, .bool ok]) w := by
  have c0 : w.cell? ⟨b, 0, none⟩ = some (.int .i64 f) := cell_of_row _ b 0 _ _ _ hb
  have c1 : w.cell? ⟨b, 1, none⟩ = some (.slice a m c) := cell_of_row _ b 1 _ _ _ hb
  have c2 : w.cell? ⟨b', 0, none⟩ = some (.bool ok) := cell_of_row _ b' 0 _ _ _ hc
  simp only [Array.getD_eq_getD_getElem?] at h2 h3
  simp [results, Tryd.results29, go_sem, h2, h3, c0, c1, c2]
end Go.Proofs.YthlpigffjbhmoaaDoor
