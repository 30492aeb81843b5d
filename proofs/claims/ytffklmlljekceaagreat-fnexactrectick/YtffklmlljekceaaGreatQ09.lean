import Derived.Test.YtffklmlljekceaaGreatQ00
namespace Go.Proofs.YtffklmlljekceaaGreat.atNil
open Go.ChangeShapes Go.WideShapes Go.ChangeAt Go.RowKit
set_option linter.unusedSimpArgs false
set_option linter.unusedVariables false
theorem recorderIs_any (n o : Int) (w : World) :
  Calls Tryz.prog 85 #[.int .i64 n, .int .i64 o] w fun e w' => e = .returned (.bool (inB o 1 5 && inB n 1 o)) ∧ w' = w := by
 cases g1 : inB o 1 5
 ·go_enter Tryz.func85, Tryz.ntmps85
  go_wp2_with (go_at_call 89; refine (within_any _ _ _ _).mono ?_; rintro e w' ⟨rfl, rfl⟩)
  go_ret
  exact ⟨rfl, rfl⟩
 go_enter Tryz.func85, Tryz.ntmps85
 go_wp2_with (go_at_call 89; refine (within_any _ _ _ _).mono ?_; rintro e w' ⟨rfl, rfl⟩)
 go_ret
 exact ⟨rfl, rfl⟩
end Go.Proofs.YtffklmlljekceaaGreat.atNil
