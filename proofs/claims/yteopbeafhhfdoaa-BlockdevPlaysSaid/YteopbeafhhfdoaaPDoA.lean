/- A call of both devices: any. -/
import Derived.Test.YteopbeafhhfdoaaPDoR
import Derived.Test.YteopbeafhhfdoaaPDoD
set_option linter.unusedVariables false
set_option linter.unusedSimpArgs false
namespace Go.Proofs.Yteopbeafhhfdoaa
open Go.RowKit Go.Maps
section
variable {B : Nat} {p : Pl} {q : Rl} {d : Dv} {w : World}
theorem do_any (h : Both w B p q d) (x : Opn) (hx : OpnIs x) (hl : x.len ≤ 300) (hK : Bys8 B w (.slice x.ka x.K.length x.kc) x.K) (hc : d.calls < 4611686018427387904) (hu : q.u < 900000000000) :
    Calls Try.prog 11 #[ptr p.D, ptr q.D, .agg (opC x)] w (DoE w B p q d) := by
  by_cases h0 : x.kind = 0
  · exact do_write h x h0 hx hl hc
  by_cases h1 : x.kind = 1
  · exact do_flush h x h1 hc hu
  by_cases h2 : x.kind = 2
  · exact do_plan h x h2 hx.n.2
  by_cases h3 : x.kind = 3
  · exact do_pull h x h3
  by_cases h4 : x.kind = 4
  · refine do_restart h x h4 hK (fun hne k e => ?_) hu
    rcases hK.2 with ⟨e0, _⟩ | ⟨b, off, cap, e1, hb, _⟩
    · exact absurd e0 hne
    · rw [e1] at e
      have e2 : b = k := Option.some.inj e
      omega
  by_cases h5 : x.kind = 5
  · by_cases hn : accE d x.n = 0
    · exact do_read_yes h x h5 hn
    · exact do_read_no h x h5 hn
  exact do_none h x h0 h1 h2 h3 h4 h5
end
end Go.Proofs.Yteopbeafhhfdoaa
