/-
  impl.RecValid: at every recorder.
-/
import Derived.Test.YtgjommccflfjaaaImplValidA
import Derived.Test.YtgjommccflfjaaaImplValidB
import Derived.Test.YtgjommccflfjaaaImplValidC
import Derived.Test.YtgjommccflfjaaaImplValidD
import Derived.Test.YtgjommccflfjaaaImplValidE
import Derived.Test.YtgjommccflfjaaaImplValidF
namespace Go.Proofs.Ytgjommccflfjaaa
open Go.ChangeShapes Go.WideShapes Go.ChangeAt Go.RowKit Go.Deep Go.Joins
set_option linter.unusedVariables false
set_option linter.unusedSimpArgs false

theorem implValid (r : Rc) (p : RcP) (w : World) (hW : Hid (r.wish.length ≤ p.cW)) (h : RcAt w r p) :
    Calls Try.prog 75 #[.agg (rcV r p)] w fun e w' => e = .returned (.bool (validB r)) ∧ Below w.heap.size w w' := by
  by_cases hN : ¬ ((inB r.of_ 1 5 && inB r.num 1 r.of_) = true ∧ diskOkB r.sp r.sk r.ss = true ∧ diskOkB r.dp r.dk r.ds = true)
  · exact iv_a r p w hW h  hN
  obtain ⟨g0, g1, g2⟩ := Classical.not_not.1 hN
  clear hN
  by_cases hN : ¬ (heldOkB r.num r.of_ r.held = true ∧ wishesOkB r.wish = true ∧ inB r.heard 0 1000000 = true)
  · exact iv_b r p w hW h g0 g1 g2 hN
  obtain ⟨g3, g4, g5⟩ := Classical.not_not.1 hN
  clear hN
  by_cases hN : ¬ (numsOkB r.of_ r.yes = true ∧ slotsOkB r.best = true ∧ acksOkB r.of_ r.acks = true)
  · exact iv_c r p w hW h g0 g1 g2 g3 g4 g5 hN
  obtain ⟨g6, g7, g8⟩ := Classical.not_not.1 hN
  clear hN
  cases hl : r.lead
  · cases ht : r.tr
    · exact iv_g r p w hW h g0 g1 g2 g3 g4 g5 g6 g7 g8 hl ht
    · exact iv_f r p w hW h g0 g1 g2 g3 g4 g5 g6 g7 g8 hl ht
  · cases ht : r.tr
    · exact iv_e r p w hW h g0 g1 g2 g3 g4 g5 g6 g7 g8 hl ht
    · exact iv_d r p w hW h g0 g1 g2 g3 g4 g5 g6 g7 g8 hl ht
end Go.Proofs.Ytgjommccflfjaaa
