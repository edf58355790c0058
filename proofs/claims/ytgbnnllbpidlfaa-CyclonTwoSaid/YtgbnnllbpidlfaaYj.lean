/- Layer 10: what a call's arguments are: draws. -/
import Derived.Test.YtgbnnllbpidlfaaRj
import Derived.Test.YtgbnnllbpidlfaaYc
namespace Go.Proofs.Ytgbnnllbpidlfaa
open Go.RowKit Go.ChangeShapes Go.WideShapes Go.Deep Go.Joins
theorem open_draws {H : Type} {enc : TypeId × Value → H} {w : World} {held : Bool} {fuel : Nat} {cs : List Value} {x : DataW H × List MemPlace} (h : DataW.trod enc Try.prog w 0 (fun _ => true) held fuel 23 cs = some x) :
    ∃ a len cap rs, cs = [.slice a len cap] ∧ Su w a len cap rs ∧ drawR rs := by
  obtain ⟨a, len, cap, rs, h1, h2, h3⟩ := open_nums Try.underlying23 Try.underlying49 (by kernel_rfl) h
  exact ⟨a, len, cap, rs, h1, h2, fun r hr => wf_u32 (h3 r hr)⟩
end Go.Proofs.Ytgbnnllbpidlfaa
