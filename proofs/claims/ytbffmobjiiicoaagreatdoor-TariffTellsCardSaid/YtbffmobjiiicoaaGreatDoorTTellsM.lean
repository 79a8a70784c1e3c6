/- The answers of a tariff at an instant, as relations. -/
import Derived.Test.YtbffmobjiiicoaaGreatDoorTRefA
set_option linter.unusedVariables false
set_option linter.unusedSimpArgs false
namespace Go.Proofs.YtbffmobjiiicoaaGreatDoor
open Go.RowKit Go.Shelf
structure Bx (w W : World) (x : Ta) : Prop where
  b : TarBox W w.heap.size x
  a : TarAt W.heap.size W x
  t : Tabs W
  o : Below w.heap.size w W
theorem Bx.next {w W X : World} {x : Ta} (h : Bx w W x) (hB : Below W.heap.size W X) : Bx w X x := ⟨h.b.next hB, h.a.up hB, h.t.next hB, h.o.trans (hB.mono h.o.size)⟩
theorem Bx.drew {w W : World} {x : Ta} (h : Bx w W x) : Bx w W.drew x := ⟨h.b, h.a.up (Below.refl _ W).drew, h.t.next (Below.refl _ W).drew, h.o.drew⟩
def LocR (x : Ta) (t s k mi g : Int) : Prop := (tarE x ≠ 0 ∧ s = 0 ∧ k = 0 ∧ mi = 0 ∧ g = tarE x) ∨ (tarE x = 0 ∧ ((OffT x t ∧ LocIs x t s k mi ∧ g = 0) ∨ (¬ OffT x t ∧ s = 0 ∧ k = 0 ∧ mi = 0 ∧ g = 60)))
def AtIs (x : Ta) (t b p h : Int) : Prop := ∃ s k mi bb, BandIs x t s k mi bb ∧ ((V10.priceO x.l t bb = some p ∧ b = bb ∧ h = 0) ∨ (V10.priceO x.l t bb = none ∧ b = 0 ∧ p = 0 ∧ h = 110))
def AtR (x : Ta) (t b p h : Int) : Prop := (tarE x ≠ 0 ∧ b = 0 ∧ p = 0 ∧ h = tarE x) ∨ (tarE x = 0 ∧ ((OffT x t ∧ AtIs x t b p h) ∨ (¬ OffT x t ∧ b = 0 ∧ p = 0 ∧ h = 60)))
theorem LocR.unique {x : Ta} {t s k mi g s' k' mi' g' : Int} (h : LocR x t s k mi g) (h' : LocR x t s' k' mi' g') : s = s' ∧ k = k' ∧ mi = mi' ∧ g = g' := by
  rcases h with ⟨e, rfl, rfl, rfl, rfl⟩ | ⟨e, h⟩ <;> rcases h' with ⟨e', rfl, rfl, rfl, rfl⟩ | ⟨e', h'⟩
  · exact ⟨rfl, rfl, rfl, rfl⟩
  · exact absurd e' e
  · exact absurd e e'
  · rcases h with ⟨o, h, rfl⟩ | ⟨o, rfl, rfl, rfl, rfl⟩ <;> rcases h' with ⟨o', h', rfl⟩ | ⟨o', rfl, rfl, rfl, rfl⟩
    · obtain ⟨a, b, c⟩ := h.unique (tarE_no e) h'
      exact ⟨a, b, c, rfl⟩
    · exact absurd o o'
    · exact absurd o' o
    · exact ⟨rfl, rfl, rfl, rfl⟩
theorem AtIs.unique {x : Ta} (hx : TarIs x) {t b p h b' p' h' : Int} (q : AtIs x t b p h) (q' : AtIs x t b' p' h') : b = b' ∧ p = p' ∧ h = h' := by
  obtain ⟨s, k, mi, bb, hb, r⟩ := q
  obtain ⟨s', k', mi', bb', hb', r'⟩ := q'
  obtain rfl := hb.unique hx hb'
  rcases r with ⟨r, rfl, rfl⟩ | ⟨r, rfl, rfl, rfl⟩ <;> rcases r' with ⟨r', rfl, rfl⟩ | ⟨r', rfl, rfl, rfl⟩
  · rw [r] at r'; injection r' with e; exact ⟨rfl, e, rfl⟩
  · rw [r] at r'; cases r'
  · rw [r] at r'; cases r'
  · exact ⟨rfl, rfl, rfl⟩
theorem AtR.unique {x : Ta} {t b p h b' p' h' : Int} (q : AtR x t b p h) (q' : AtR x t b' p' h') : b = b' ∧ p = p' ∧ h = h' := by
  rcases q with ⟨e, rfl, rfl, rfl⟩ | ⟨e, q⟩ <;> rcases q' with ⟨e', rfl, rfl, rfl⟩ | ⟨e', q'⟩
  · exact ⟨rfl, rfl, rfl⟩
  · exact absurd e' e
  · exact absurd e e'
  · rcases q with ⟨o, q⟩ | ⟨o, rfl, rfl, rfl⟩ <;> rcases q' with ⟨o', q'⟩ | ⟨o', rfl, rfl, rfl⟩
    · exact q.unique (tarE_no e) q'
    · exact absurd o o'
    · exact absurd o' o
    · exact ⟨rfl, rfl, rfl⟩
def LocE (x : Ta) (t : Int) (e : Ending) : Prop := ∃ s k mi g, LocR x t s k mi g ∧ e = .returned (.tuple #[.int .i64 s, .int .i64 k, .int .i64 mi, .int .i64 g])
def AtE (x : Ta) (t : Int) (e : Ending) : Prop := ∃ b p h, AtR x t b p h ∧ e = .returned (.tuple #[.int .i64 b, .int .i64 p, .int .i64 h])
section
variable (x : Ta) (t : Int) (w : World) (hA : TarAt w.heap.size w x) (hL : TarLen x) (hT : Tabs w) (ht : In64 t)
include hA hL hT ht
theorem locA : Calls Tryz.prog 7 #[tarV x, .int .i64 t] w fun e w' => LocE x t e ∧ Below w.heap.size w w' := by
  by_cases h : tarE x = 0
  · have hx := tarE_no h
    by_cases o : OffT x t
    · refine (local_yes x t w hA hL hT hx o).mono ?_
      rintro e w' ⟨⟨s, k, mi, h1, rfl⟩, hB⟩
      exact ⟨⟨s, k, mi, 0, .inr ⟨h, .inl ⟨o, h1, rfl⟩⟩, rfl⟩, hB⟩
    · refine (local_no x t w hA hL hT hx ht o).mono ?_
      rintro e w' ⟨rfl, hB⟩
      exact ⟨⟨0, 0, 0, 60, .inr ⟨h, .inr ⟨o, rfl, rfl, rfl, rfl⟩⟩, rfl⟩, hB⟩
  · refine (local_bad x t w hA hL hT _ rfl (by simpa using h)).mono ?_
    rintro e w' ⟨rfl, hB⟩
    exact ⟨⟨0, 0, 0, _, .inl ⟨h, rfl, rfl, rfl, rfl⟩, rfl⟩, hB⟩
theorem atA : Calls Tryz.prog 8 #[tarV x, .int .i64 t] w fun e w' => AtE x t e ∧ Below w.heap.size w w' := by
  by_cases h : tarE x = 0
  · have hx := tarE_no h
    by_cases o : OffT x t
    · refine (at_ok x t w hA hL hT hx o).mono ?_
      rintro e w' ⟨⟨s, k, mi, b, h1, ⟨p, h2, rfl⟩ | ⟨h2, rfl⟩⟩, hB⟩
      · exact ⟨⟨b, p, 0, .inr ⟨h, .inl ⟨o, s, k, mi, b, h1, .inl ⟨h2, rfl, rfl⟩⟩⟩, rfl⟩, hB⟩
      · exact ⟨⟨0, 0, 110, .inr ⟨h, .inl ⟨o, s, k, mi, b, h1, .inr ⟨h2, rfl, rfl, rfl⟩⟩⟩, rfl⟩, hB⟩
    · refine (at_bad x t w hA hL hT 60 (.inr ⟨hx, ht, o, rfl⟩)).mono ?_
      rintro e w' ⟨rfl, hB⟩
      exact ⟨⟨0, 0, 60, .inr ⟨h, .inr ⟨o, rfl, rfl, rfl⟩⟩, rfl⟩, hB⟩
  · refine (at_bad x t w hA hL hT _ (.inl ⟨rfl, by simpa using h⟩)).mono ?_
    rintro e w' ⟨rfl, hB⟩
    exact ⟨⟨0, 0, _, .inl ⟨h, rfl, rfl, rfl⟩, rfl⟩, hB⟩
end
section
variable (x : Ta) (t : Int) (w : World) (hA : TarAt w.heap.size w x) (h : tarE x = 0)
include hA h
theorem rlocA : Calls Tryz.prog 9 #[zoneV x.off x.za x.zl x.zc, calVx x, .int .i64 t] w fun e w' => LocE x t e ∧ Below w.heap.size w w' := by
  have hx := tarE_no h
  by_cases o : OffT x t
  · refine (rlocal_yes x t w hA hx o).mono ?_
    rintro e w' ⟨⟨s, k, mi, h1, rfl⟩, hB⟩
    exact ⟨⟨s, k, mi, 0, .inr ⟨h, .inl ⟨o, h1, rfl⟩⟩, rfl⟩, hB⟩
  · refine (rlocal_no x t w hA hx o).mono ?_
    rintro e w' ⟨rfl, hB⟩
    exact ⟨⟨0, 0, 0, 60, .inr ⟨h, .inr ⟨o, rfl, rfl, rfl, rfl⟩⟩, rfl⟩, hB⟩
theorem ratA (hL : TarLen x) (hS : Small2 x) : Calls Tryz.prog 10 #[zoneV x.off x.za x.zl x.zc, calVx x, tabVx x, .slice x.va x.l.length x.vc, .int .i64 t] w fun e w' => AtE x t e ∧ Below w.heap.size w w' := by
  have hx := tarE_no h
  by_cases o : OffT x t
  · refine (rat_ok x t w hA hL hS hx o).mono ?_
    rintro e w' ⟨⟨s, k, mi, b, h1, ⟨p, h2, rfl⟩ | ⟨h2, rfl⟩⟩, hB⟩
    · exact ⟨⟨b, p, 0, .inr ⟨h, .inl ⟨o, s, k, mi, b, h1, .inl ⟨h2, rfl, rfl⟩⟩⟩, rfl⟩, hB⟩
    · exact ⟨⟨0, 0, 110, .inr ⟨h, .inl ⟨o, s, k, mi, b, h1, .inr ⟨h2, rfl, rfl, rfl⟩⟩⟩, rfl⟩, hB⟩
  · refine (rat_no x t w hA hx o).mono ?_
    rintro e w' ⟨rfl, hB⟩
    exact ⟨⟨0, 0, 60, .inr ⟨h, .inr ⟨o, rfl, rfl, rfl⟩⟩, rfl⟩, hB⟩
end
theorem row64_cell {w : World} {a : Option Addr} {len cap : Nat} {z : List Int} (h : IsRow .i64 w a len cap z) {k : Nat} (hk : k < len) :
    ∃ b o t, a = some ⟨b, o, none⟩ ∧ b < w.heap.size ∧ In64 t ∧ w.cell? ⟨b, o + k, none⟩ = some (.int .i64 t) := by
  rcases h with ⟨_, rfl, _⟩ | ⟨x, rfl, h1, h2, h3, h4, h5⟩
  · omega
  · obtain ⟨b, o, spot⟩ := x
    have c := h4 k (by omega)
    have hspot : spot = none := by
      have := World.cell?_spot (h4 0 (by omega))
      simpa [Addr.add] using this
    subst hspot
    rw [Addr.add_mid] at c
    have hm : z.getD k 0 ∈ z := by
      rw [List.getD, List.getElem?_eq_getElem (by omega)]
      exact List.getElem_mem _
    have hw := h5 _ hm
    have hi : In64 (z.getD k 0) := by
      simp [Lit.wf, IntKind.min, IntKind.max, IntKind.bits, IntKind.signed] at hw
      simp [In64]
      omega
    exact ⟨b, o, z.getD k 0, rfl, World.block_lt_of_cell? w _ c, hi, c⟩
theorem frame_of {N : Nat} {l : List Value} (h : l.length = N) : l = (List.range N).map (fun i => l.getD i undef) := by
  subst h
  apply List.ext_getElem (by simp)
  intro i h1 h2
  simp [List.getD, h1]
end Go.Proofs.YtbffmobjiiicoaaGreatDoor
