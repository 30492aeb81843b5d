import Derived.Test.YtjdceoimignnpaaF00
namespace Go.Proofs.Ytjdceoimignnpaa.atNil
open Go.ChangeShapes Go.WideShapes Go.ChangeAt Go.RowKit
set_option linter.unusedVariables false
set_option linter.unusedSimpArgs false
theorem wU (n o : Int) (w : World) :
  Calls Try.prog 43 #[.int .i64 n, .int .i64 o] w fun e w' => e = .returned (.bool (inB o 1 5 && inB n 1 o)) ∧ w' = w := by
 cases g1 : inB o 1 5
 ·go_enter Try.func43, Try.ntmps43;go_wp2_with (go_at_call 46; refine (cZ _ _ _ _).mono ?_; rintro e w' ⟨rfl, rfl⟩);go_ret;exact ⟨rfl, rfl⟩
 go_enter Try.func43, Try.ntmps43;go_wp2_with (go_at_call 46; refine (cZ _ _ _ _).mono ?_; rintro e w' ⟨rfl, rfl⟩);go_ret;exact ⟨rfl, rfl⟩
end Go.Proofs.Ytjdceoimignnpaa.atNil
