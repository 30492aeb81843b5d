/-
  impl.RecAgree.
-/
import Derived.Test.YtgjommccflfjaaaWAgS
import Derived.Test.YtgjommccflfjaaaWAgI
import Derived.Test.YtgjommccflfjaaaWAgR
namespace Go.Proofs.Ytgjommccflfjaaa
open Go.ChangeShapes Go.WideShapes Go.ChangeAt Go.RowKit Go.Deep Go.Joins
set_option linter.unusedVariables false
set_option linter.unusedSimpArgs false

set_option maxHeartbeats 4000000 in
theorem implAgree (d : Wd) (p : WdP) (w : World) (hS0 : WdSmall d) (h : WdTo w d p) :
    Calls Try.prog 19 #[.agg (wdV d p)] w fun e w' => e = .returned (.bool (agreeB d)) ∧ Below w.heap.size w w' := by
  have hS : Hid (WdSmall d) := hS0
  clear hS0
  have hB : Below w.heap.size w (w.alloc (.cells (wdV d p) 26)) := ext_alloc (Below.refl _ _) _
  have hR := h.ext hB
  have b0 := Blk.new w (wdV d p) 26
  clear h
  go_enter Try.func19, Try.ntmps19
  go_wp2_with fail
  refine (implWorldOk d p _ hR).mono ?_
  rintro e w0 ⟨rfl, hb0⟩
  have cb0 := (b0.ext hb0).cell
  cases g0 : worldOkB d
  · have ha : Hid (agreeB d = false) := by unfold Hid agreeB; rw [g0]; rfl
    go_wp2_with fail
    go_ret
    exact ⟨by rw [ha.out]; rfl, ext_trans hB hb0⟩
  have hasc : Hid (AscF d.fx) := world_fixed g0
  go_wp2_with fail
  refine (implBooks d p _ hS.out hasc.out (hR.ext hb0)).mono ?_
  rintro e w1 ⟨rfl, hb1⟩
  have HB1 := ext_trans hb0 hb1
  have cb1 := (b0.ext HB1).cell
  clear cb0
  cases g1 : booksB d
  · have ha : Hid (agreeB d = false) := by unfold Hid agreeB; rw [g0, g1]; rfl
    go_wp2_with fail
    go_ret
    exact ⟨by rw [ha.out]; rfl, ext_trans hB HB1⟩
  go_wp2_with fail
  refine (implMajors d p _ hS.out hasc.out (hR.ext HB1).at).mono ?_
  rintro e w2 ⟨rfl, hb2⟩
  have HB2 := ext_trans HB1 hb2
  have ha : Hid (agreeB d = majorsB d) := by unfold Hid agreeB; rw [g0, g1]; rfl
  clear cb1
  go_wp2_with fail
  go_ret
  exact ⟨by rw [ha.out]; rfl, ext_trans hB HB2⟩
end Go.Proofs.Ytgjommccflfjaaa
