/-
  RecNew of both, by contracts.
-/
import Derived.Test.YtchbdajgpfcjcaaAtNil
import Derived.Test.YtchbdajgpfcjcaaWide
namespace Go.Proofs.Ytchbdajgpfcjcaa.atNil
open Go.ChangeShapes Go.WideShapes Go.ChangeAt Go.RowKit
set_option linter.unusedVariables false
set_option linter.unusedSimpArgs false

theorem recorderIs_any (n o : Int) (w : World) :
    Calls Try.prog 55 #[.int .i64 n, .int .i64 o] w fun e w' => e = .returned (.bool (inB o 1 5 && inB n 1 o)) ∧ w' = w := by
  cases g1 : inB o 1 5
  · go_enter Try.func55, Try.ntmps55
    go_wp2_with (go_at_call 45; refine (within_any _ _ _ _).mono ?_; rintro e w' ⟨rfl, rfl⟩)
    go_ret
    exact ⟨rfl, rfl⟩
  · go_enter Try.func55, Try.ntmps55
    go_wp2_with (go_at_call 45; refine (within_any _ _ _ _).mono ?_; rintro e w' ⟨rfl, rfl⟩)
    go_ret
    exact ⟨rfl, rfl⟩

set_option maxHeartbeats 400000 in
theorem specNew_yes (n o : Int) (w : World) (g1 : inB o 1 5 = true) (g2 : inB n 1 o = true) :
    Calls Try.prog 22 #[.int .i64 n, .int .i64 o] w fun e w' => e = .returned (.agg (recV n o true)) ∧ Below w.heap.size w w' := by
  go_enter Try.func22, Try.ntmps22
  go_wp2_with (first
    | (go_at_call 43; refine (l1In_any _ _ _ _).mono ?_; rintro e w' ⟨rfl, rfl⟩)
    | ((with_reducible refine wpList_build_to (ty := 44) (recV n o true) ?_ ?_); (· kernel_rfl))
    | ((with_reducible refine wpList_store_last (ty := 44) (recV n o true) ?_ ?_ ?_ ?_ ?_ ?_); (· rfl); (· rfl); (· kernel_rfl); (· rfl); (· simp [Value.oneCell'])))
  refine ret_cell (ty := 44) Try.results22 w.heap.size (recV n o true) _ ?_ ?_ (Blk.new _ _ _) Try.underlying44 rfl (by kernel_rfl) ⟨rfl, (Below.refl _ _).alloc (Nat.le_refl _) _⟩
  · rfl
  · rfl

set_option maxHeartbeats 400000 in
theorem specNew_of (n o : Int) (w : World) (g1 : inB o 1 5 = false) :
    Calls Try.prog 22 #[.int .i64 n, .int .i64 o] w fun e w' => e = .returned (.agg (recV 0 0 false)) ∧ Below w.heap.size w w' := by
  go_enter Try.func22, Try.ntmps22
  go_wp2_with (first
    | (go_at_call 43; refine (l1In_any _ _ _ _).mono ?_; rintro e w' ⟨rfl, rfl⟩)
    | ((with_reducible refine wpList_build_to (ty := 44) (recV 0 0 false) ?_ ?_); (· kernel_rfl))
    | ((with_reducible refine wpList_store_last (ty := 44) (recV 0 0 false) ?_ ?_ ?_ ?_ ?_ ?_); (· rfl); (· rfl); (· kernel_rfl); (· rfl); (· simp [Value.oneCell'])))
  refine ret_cell (ty := 44) Try.results22 w.heap.size (recV 0 0 false) _ ?_ ?_ (Blk.new _ _ _) Try.underlying44 rfl (by kernel_rfl) ⟨rfl, (Below.refl _ _).alloc (Nat.le_refl _) _⟩
  · rfl
  · rfl

set_option maxHeartbeats 400000 in
theorem specNew_number (n o : Int) (w : World) (g1 : inB o 1 5 = true) (g2 : inB n 1 o = false) :
    Calls Try.prog 22 #[.int .i64 n, .int .i64 o] w fun e w' => e = .returned (.agg (recV 0 0 false)) ∧ Below w.heap.size w w' := by
  go_enter Try.func22, Try.ntmps22
  go_wp2_with (first
    | (go_at_call 43; refine (l1In_any _ _ _ _).mono ?_; rintro e w' ⟨rfl, rfl⟩)
    | ((with_reducible refine wpList_build_to (ty := 44) (recV 0 0 false) ?_ ?_); (· kernel_rfl))
    | ((with_reducible refine wpList_store_last (ty := 44) (recV 0 0 false) ?_ ?_ ?_ ?_ ?_ ?_); (· rfl); (· rfl); (· kernel_rfl); (· rfl); (· simp [Value.oneCell'])))
  refine ret_cell (ty := 44) Try.results22 w.heap.size (recV 0 0 false) _ ?_ ?_ (Blk.new _ _ _) Try.underlying44 rfl (by kernel_rfl) ⟨rfl, (Below.refl _ _).alloc (Nat.le_refl _) _⟩
  · rfl
  · rfl

set_option maxHeartbeats 400000 in
theorem implNew_yes (n o : Int) (w : World) (g1 : inB o 1 5 = true) (g2 : inB n 1 o = true) :
    Calls Try.prog 23 #[.int .i64 n, .int .i64 o] w fun e w' => e = .returned (.agg (recV n o true)) ∧ Below w.heap.size w w' := by
  go_enter Try.func23, Try.ntmps23
  go_wp2_with (first
    | (go_at_call 55; refine (recorderIs_any _ _ _).mono ?_; rintro e w' ⟨rfl, rfl⟩)
    | ((with_reducible refine wpList_build_to (ty := 44) (recV n o true) ?_ ?_); (· kernel_rfl))
    | ((with_reducible refine wpList_store_last (ty := 44) (recV n o true) ?_ ?_ ?_ ?_ ?_ ?_); (· rfl); (· rfl); (· kernel_rfl); (· rfl); (· simp [Value.oneCell'])))
  refine ret_cell (ty := 44) Try.results23 w.heap.size (recV n o true) _ ?_ ?_ (Blk.new _ _ _) Try.underlying44 rfl (by kernel_rfl) ⟨rfl, (Below.refl _ _).alloc (Nat.le_refl _) _⟩
  · rfl
  · rfl

set_option maxHeartbeats 400000 in
theorem implNew_of (n o : Int) (w : World) (g1 : inB o 1 5 = false) :
    Calls Try.prog 23 #[.int .i64 n, .int .i64 o] w fun e w' => e = .returned (.agg (recV 0 0 false)) ∧ Below w.heap.size w w' := by
  go_enter Try.func23, Try.ntmps23
  go_wp2_with (first
    | (go_at_call 55; refine (recorderIs_any _ _ _).mono ?_; rintro e w' ⟨rfl, rfl⟩)
    | ((with_reducible refine wpList_build_to (ty := 44) (recV 0 0 false) ?_ ?_); (· kernel_rfl))
    | ((with_reducible refine wpList_store_last (ty := 44) (recV 0 0 false) ?_ ?_ ?_ ?_ ?_ ?_); (· rfl); (· rfl); (· kernel_rfl); (· rfl); (· simp [Value.oneCell'])))
  refine ret_cell (ty := 44) Try.results23 w.heap.size (recV 0 0 false) _ ?_ ?_ (Blk.new _ _ _) Try.underlying44 rfl (by kernel_rfl) ⟨rfl, (Below.refl _ _).alloc (Nat.le_refl _) _⟩
  · rfl
  · rfl

set_option maxHeartbeats 400000 in
theorem implNew_number (n o : Int) (w : World) (g1 : inB o 1 5 = true) (g2 : inB n 1 o = false) :
    Calls Try.prog 23 #[.int .i64 n, .int .i64 o] w fun e w' => e = .returned (.agg (recV 0 0 false)) ∧ Below w.heap.size w w' := by
  go_enter Try.func23, Try.ntmps23
  go_wp2_with (first
    | (go_at_call 55; refine (recorderIs_any _ _ _).mono ?_; rintro e w' ⟨rfl, rfl⟩)
    | ((with_reducible refine wpList_build_to (ty := 44) (recV 0 0 false) ?_ ?_); (· kernel_rfl))
    | ((with_reducible refine wpList_store_last (ty := 44) (recV 0 0 false) ?_ ?_ ?_ ?_ ?_ ?_); (· rfl); (· rfl); (· kernel_rfl); (· rfl); (· simp [Value.oneCell'])))
  refine ret_cell (ty := 44) Try.results23 w.heap.size (recV 0 0 false) _ ?_ ?_ (Blk.new _ _ _) Try.underlying44 rfl (by kernel_rfl) ⟨rfl, (Below.refl _ _).alloc (Nat.le_refl _) _⟩
  · rfl
  · rfl

/-- called with n and o, whatever the world, function f gives the recorder (a, b, u) and turns nothing that was there -/
def NewDoes (f : Nat) (n o a b : Int) (u : Bool) : Prop :=
  ∀ w, Calls Try.prog f #[.int .i64 n, .int .i64 o] w fun e w' => e = .returned (.agg (recV a b u)) ∧ Below w.heap.size w w'
theorem both_any (n o : Int) : ∃ a b u, NewDoes 22 n o a b u ∧ NewDoes 23 n o a b u := by
  cases g1 : inB o 1 5
  · exact ⟨0, 0, false, fun w => specNew_of n o w g1, fun w => implNew_of n o w g1⟩
  · cases g2 : inB n 1 o
    · exact ⟨0, 0, false, fun w => specNew_number n o w g1 g2, fun w => implNew_number n o w g1 g2⟩
    · exact ⟨n, o, true, fun w => specNew_yes n o w g1 g2, fun w => implNew_yes n o w g1 g2⟩
end Go.Proofs.Ytchbdajgpfcjcaa.atNil
