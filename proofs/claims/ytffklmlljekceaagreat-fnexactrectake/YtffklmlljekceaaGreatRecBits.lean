/-
  What a recorder is doing: spec.l2Quiet, impl.downOk, impl.roleOf and the three bodies of borneOutBy.
-/
import Derived.Test.YtffklmlljekceaaGreatRec
import Derived.Handy
namespace Go.Proofs.YtffklmlljekceaaGreat
open Go.ChangeShapes Go.WideShapes Go.ChangeAt Go.RowKit Go.Deep Go.Joins
set_option linter.unusedVariables false
set_option linter.unusedSimpArgs false

def quietB (r : Rc) : Bool := !r.lead && !r.tr && decide (r.ball = 0) && decide (r.yes.length = 0) && decide (r.best.length = 0) && decide (r.acks.length = 0)
def downB (r : Rc) : Bool := !r.lead && !r.tr && decide (r.held.length = 0) && decide (r.wish.length = 0) && decide (r.heard = 0)
def leadB (r : Rc) : Bool := inB r.ball 1 r.dp && decide (r.yes.length = 0) && decide (r.best.length = 0)
def tryB (r : Rc) : Bool := inB r.ball 1 r.dp && decide (r.acks.length = 0)
def calmB (r : Rc) : Bool := decide (r.ball = 0) && decide (r.yes.length = 0) && decide (r.best.length = 0) && decide (r.acks.length = 0)
theorem beq0 (x : Int) : (x == 0) = decide (x = 0) := rfl
def roleV (r : Rc) : Value := if r.lead then .iface 140 (.agg #[]) else if r.tr then .iface 141 (.agg #[]) else .iface 142 (.agg #[])
theorem sum3 {a b c : Nat} (ha : a ≤ 1048576) (hb : b ≤ 1048576) (hc : c ≤ 1048576) : (wrap64 (wrap64 ((a : Int) + (b : Int)) + (c : Int)) == 0) = (decide (a = 0) && decide (b = 0) && decide (c = 0)) := by
  have e : wrap64 (wrap64 ((a : Int) + (b : Int)) + (c : Int)) = (a : Int) + b + c := by go_arith
  rw [e]
  by_cases h1 : a = 0 <;> by_cases h2 : b = 0 <;> by_cases h3 : c = 0 <;> simp [h1, h2, h3] <;> omega

set_option maxHeartbeats 2000000 in
theorem l2Quiet_any (r : Rc) (p : RcP) (w : World) (hS : RcSmall r) :
    Calls Tryz.prog 76 #[.agg (rcV r p)] w fun e w' => e = .returned (.bool (quietB r)) ∧ Below w.heap.size w w' := by
  have HS : Hid ((wrap64 (wrap64 ((r.yes.length : Int) + (r.best.length : Int)) + (r.acks.length : Int)) == 0) = (decide (r.yes.length = 0) && decide (r.best.length = 0) && decide (r.acks.length = 0))) := sum3 hS.lY hS.lB hS.lA
  clear hS
  go_enter Tryz.func76, Tryz.ntmps76
  go_wp2_with fail
  all_goals go_ret
  · exact ⟨by simp [quietB, *], ext_alloc (Below.refl _ _) _⟩
  · exact ⟨by simp [quietB, *], ext_alloc (Below.refl _ _) _⟩
  · refine ⟨?_, ext_alloc (Below.refl _ _) _⟩
    rw [HS.out]
    simp [quietB, *]
  · exact ⟨by simp [quietB, *], ext_alloc (Below.refl _ _) _⟩

set_option maxHeartbeats 2000000 in
theorem downOk_any (r : Rc) (p : RcP) (w : World) :
    Calls Tryz.prog 94 #[.agg (rcV r p)] w fun e w' => e = .returned (.bool (downB r)) ∧ Below w.heap.size w w' := by
  go_enter Tryz.func94, Tryz.ntmps94
  go_wp2_with fail
  all_goals go_ret
  all_goals exact ⟨by simp [downB, beq0, *], ext_alloc (Below.refl _ _) _⟩

set_option maxHeartbeats 2000000 in
theorem lead_any (r : Rc) (p : RcP) (w : World) :
    Calls Tryz.prog 195 #[.agg #[], .agg (rcV r p)] w fun e w' => e = .returned (.bool (leadB r)) ∧ Below w.heap.size w w' := by
  go_enter Tryz.func195, Tryz.ntmps195
  go_wp2_with (go_at_call 89; refine (within_any _ _ _ _).mono ?_; rintro e w' ⟨rfl, rfl⟩)
  all_goals go_ret
  all_goals exact ⟨by simp [leadB, beq0, *], ext_alloc (ext_alloc (Below.refl _ _) _) _⟩

set_option maxHeartbeats 2000000 in
theorem try_any (r : Rc) (p : RcP) (w : World) :
    Calls Tryz.prog 196 #[.agg #[], .agg (rcV r p)] w fun e w' => e = .returned (.bool (tryB r)) ∧ Below w.heap.size w w' := by
  go_enter Tryz.func196, Tryz.ntmps196
  go_wp2_with (go_at_call 89; refine (within_any _ _ _ _).mono ?_; rintro e w' ⟨rfl, rfl⟩)
  all_goals go_ret
  all_goals exact ⟨by simp [tryB, beq0, *], ext_alloc (ext_alloc (Below.refl _ _) _) _⟩

set_option maxHeartbeats 2000000 in
theorem calm_any (r : Rc) (p : RcP) (w : World) :
    Calls Tryz.prog 197 #[.agg #[], .agg (rcV r p)] w fun e w' => e = .returned (.bool (calmB r)) ∧ Below w.heap.size w w' := by
  go_enter Tryz.func197, Tryz.ntmps197
  go_wp2_with fail
  all_goals go_ret
  all_goals exact ⟨by simp [calmB, beq0, *], ext_alloc (ext_alloc (Below.refl _ _) _) _⟩

set_option maxHeartbeats 2000000 in
theorem roleOf_any (r : Rc) (p : RcP) (w : World) :
    Calls Tryz.prog 93 #[.agg (rcV r p)] w fun e w' => e = .returned (roleV r) ∧ Below w.heap.size w w' := by
  go_enter Tryz.func93, Tryz.ntmps93
  go_wp2_with fail
  all_goals go_ret
  all_goals exact ⟨by simp [roleV, *], ext_alloc (Below.refl _ _) _⟩
end Go.Proofs.YtffklmlljekceaaGreat
