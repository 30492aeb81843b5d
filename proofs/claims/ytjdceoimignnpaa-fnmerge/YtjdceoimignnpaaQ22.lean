import Derived.Test.YtjdceoimignnpaaQ04
namespace Go.Proofs.Ytjdceoimignnpaa.next
open Go.ChangeShapes Go.WideShapes Go.ChangeAt Go.RowKit
open Go.Proofs.Ytjdceoimignnpaa.atNil
set_option linter.unusedVariables false
set_option linter.unusedSimpArgs false
variable {a o : Int}
/-- above, number and of are such as the document asks for -/
def askB (a n o : Int) : Bool := inB o 1 5 && (inB n 1 o && inB a 0 1000000)
/-- the least ballot of n's above a, were there no last one -/
def nextN (a n o : Int) : Int := if a.tdiv o * o + n ≤ a then a.tdiv o * o + n + o else a.tdiv o * o + n
def nextB (a n o : Int) : Int := if askB a n o = true then (if 1000000 < nextN a n o then 0 else nextN a n o) else 0
set_option maxHeartbeats 1000000 in
theorem specNext_no (a n o : Int) (w : World) (g : askB a n o = false) :
  Calls Try.prog 20 #[.int .i64 a, .int .i64 n, .int .i64 o] w fun e w' => e = .returned (.int .i64 0) ∧ w' = w := by
 unfold askB at g;cases g1 : inB o 1 5
 ·go_enter Try.func20, Try.ntmps20;go_wp2_with (go_at_call 37; refine (l1In_any _ _ _ _).mono ?_; rintro e w' ⟨rfl, rfl⟩);go_ret;exact ⟨rfl, rfl⟩
 ·cases g2 : inB n 1 o
  ·go_enter Try.func20, Try.ntmps20;go_wp2_with (go_at_call 37; refine (l1In_any _ _ _ _).mono ?_; rintro e w' ⟨rfl, rfl⟩);go_ret;exact ⟨rfl, rfl⟩
  ·have g3 : inB a 0 1000000 = false := by simpa [g1, g2] using g
   go_enter Try.func20, Try.ntmps20;go_wp2_with (go_at_call 37; refine (l1In_any _ _ _ _).mono ?_; rintro e w' ⟨rfl, rfl⟩);go_ret;exact ⟨rfl, rfl⟩
set_option maxHeartbeats 1000000 in
theorem implNext_no (a n o : Int) (w : World) (g : askB a n o = false) :
  Calls Try.prog 19 #[.int .i64 a, .int .i64 n, .int .i64 o] w fun e w' => e = .returned (.int .i64 0) ∧ w' = w := by
 unfold askB at g;cases g1 : inB a 0 1000000
 ·go_enter Try.func19, Try.ntmps19
  go_wp2_with (first
   | (go_at_call 46; refine (within_any _ _ _ _).mono ?_; rintro e w' ⟨rfl, rfl⟩)
   | (go_at_call 43; refine (recorderIs_any _ _ _).mono ?_; rintro e w' ⟨rfl, rfl⟩))
  go_ret;exact ⟨rfl, rfl⟩
 ·have g3 : (inB o 1 5 && inB n 1 o) = false := by
   rw [g1, Bool.and_true] at g; exact g
  go_enter Try.func19, Try.ntmps19
  go_wp2_with (first
   | (go_at_call 46; refine (within_any _ _ _ _).mono ?_; rintro e w' ⟨rfl, rfl⟩)
   | (go_at_call 43; refine (recorderIs_any _ _ _).mono ?_; rintro e w' ⟨rfl, rfl⟩; rw [g3]))
  go_ret;exact ⟨rfl, rfl⟩
theorem quo_near (ha : 0 ≤ a) (h1 : 1 ≤ o) (h2 : o ≤ 5) : 0 ≤ a.tdiv o ∧ a.tdiv o ≤ a ∧ a.tdiv o * o ≤ a ∧ a < a.tdiv o * o + o ∧ a.tmod o = a - a.tdiv o * o := by
 have e : a.tmod o = a - a.tdiv o * o := by
  have := Int.mul_tdiv_add_tmod a o;rw [Int.mul_comm] at this;omega
 rw [e, Int.tdiv_eq_ediv_of_nonneg ha];have k : o = 1 ∨ o = 2 ∨ o = 3 ∨ o = 4 ∨ o = 5 := by omega
 rcases k with rfl | rfl | rfl | rfl | rfl <;> omega
set_option maxHeartbeats 4000000 in
theorem specNext_yes (a n o : Int) (w : World) (g : askB a n o = true) :
  Calls Try.prog 20 #[.int .i64 a, .int .i64 n, .int .i64 o] w fun e w' => e = .returned (.int .i64 (nextB a n o)) ∧ w' = w := by
 have gg := g;unfold askB at g;simp only [Bool.and_eq_true] at g;obtain ⟨g1, g2, g3⟩ := g;have q1 := inB_iff.1 g1;have q2 := inB_iff.1 g2;have q3 := inB_iff.1 g3;have hv : nextB a n o = (if 1000000 < nextN a n o then 0 else nextN a n o) := by unfold nextB; rw [if_pos gg]
 rw [hv];unfold nextN;clear hv gg;have Q := quo_near q3.1 q1.1 q1.2;have hq : o ≠ 0 := by omega
 by_cases k1 : a.tdiv o * o + n ≤ a
 ·rw [if_pos k1];by_cases k2 : 1000000 < a.tdiv o * o + n + o
  ·rw [if_pos k2];go_enter Try.func20, Try.ntmps20;go_wp2_with (go_at_call 37; refine (l1In_any _ _ _ _).mono ?_; rintro e w' ⟨rfl, rfl⟩; (first | rw [g1] | rw [g2] | rw [g3]));go_ret;exact ⟨rfl, rfl⟩
  ·rw [if_neg k2];go_enter Try.func20, Try.ntmps20;go_wp2_with (go_at_call 37; refine (l1In_any _ _ _ _).mono ?_; rintro e w' ⟨rfl, rfl⟩; (first | rw [g1] | rw [g2] | rw [g3]));go_ret;exact ⟨rfl, rfl⟩
 ·rw [if_neg k1];by_cases k2 : 1000000 < a.tdiv o * o + n
  ·rw [if_pos k2];go_enter Try.func20, Try.ntmps20;go_wp2_with (go_at_call 37; refine (l1In_any _ _ _ _).mono ?_; rintro e w' ⟨rfl, rfl⟩; (first | rw [g1] | rw [g2] | rw [g3]));go_ret;exact ⟨rfl, rfl⟩
  ·rw [if_neg k2];go_enter Try.func20, Try.ntmps20;go_wp2_with (go_at_call 37; refine (l1In_any _ _ _ _).mono ?_; rintro e w' ⟨rfl, rfl⟩; (first | rw [g1] | rw [g2] | rw [g3]));go_ret;exact ⟨rfl, rfl⟩
theorem next_rem {n : Int} (ha : 0 ≤ a) (h1 : 1 ≤ o) (h2 : o ≤ 5) (n1 : 1 ≤ n) (n2 : n ≤ o) : a + 1 + (n + o - 1 - a) % o = nextN a n o := by
 have hd := Int.tdiv_eq_ediv_of_nonneg (b := o) ha;unfold nextN;rw [hd];have k : o = 1 ∨ o = 2 ∨ o = 3 ∨ o = 4 ∨ o = 5 := by omega
 rcases k with rfl | rfl | rfl | rfl | rfl
 all_goals
  split <;> omega
theorem rem_near {x : Int} (h1 : 1 ≤ o) : 0 ≤ x % o ∧ x % o < o :=
 ⟨Int.emod_nonneg _ (by omega), Int.emod_lt_of_pos _ (by omega)⟩
set_option maxHeartbeats 4000000 in
theorem implNext_yes (a n o : Int) (w : World) (g : askB a n o = true) :
  Calls Try.prog 19 #[.int .i64 a, .int .i64 n, .int .i64 o] w fun e w' => e = .returned (.int .i64 (nextB a n o)) ∧ w' = w := by
 have gg := g;unfold askB at g;simp only [Bool.and_eq_true] at g;obtain ⟨g1, g2, g3⟩ := g;have q1 := inB_iff.1 g1;have q2 := inB_iff.1 g2;have q3 := inB_iff.1 g3;have g4 : (inB o 1 5 && inB n 1 o) = true := by rw [g1, g2]; rfl
 have hv : nextB a n o = (if 1000000 < nextN a n o then 0 else nextN a n o) := by unfold nextB; rw [if_pos gg]
 rw [hv, ← next_rem q3.1 q1.1 q1.2 q2.1 q2.2];clear hv gg;have Q := rem_near (x := a) q1.1;have Q' := rem_near (x := n + o - 1 - a) (o := o) q1.1;have hq : o ≠ 0 := by omega
 by_cases k1 : 1000000 < a + 1 + (n + o - 1 - a) % o
 ·rw [if_pos k1];go_enter Try.func19, Try.ntmps19
  go_wp2_with (first
   | (go_at_call 46; refine (within_any _ _ _ _).mono ?_; rintro e w' ⟨rfl, rfl⟩; rw [g3])
   | (go_at_call 43; refine (recorderIs_any _ _ _).mono ?_; rintro e w' ⟨rfl, rfl⟩; rw [g4]))
  go_ret;exact ⟨rfl, rfl⟩
 ·rw [if_neg k1];go_enter Try.func19, Try.ntmps19
  go_wp2_with (first
   | (go_at_call 46; refine (within_any _ _ _ _).mono ?_; rintro e w' ⟨rfl, rfl⟩; rw [g3])
   | (go_at_call 43; refine (recorderIs_any _ _ _).mono ?_; rintro e w' ⟨rfl, rfl⟩; rw [g4]))
  go_ret;exact ⟨rfl, rfl⟩
theorem specNext (a n o : Int) (w : World) :
  Calls Try.prog 20 #[.int .i64 a, .int .i64 n, .int .i64 o] w fun e w' => e = .returned (.int .i64 (nextB a n o)) ∧ w' = w := by
 cases g : askB a n o
 ·have : nextB a n o = 0 := by unfold nextB; rw [g]; rfl
  rw [this]; exact specNext_no a n o w g
 ·exact specNext_yes a n o w g
theorem implNext (a n o : Int) (w : World) :
  Calls Try.prog 19 #[.int .i64 a, .int .i64 n, .int .i64 o] w fun e w' => e = .returned (.int .i64 (nextB a n o)) ∧ w' = w := by
 cases g : askB a n o
 ·have : nextB a n o = 0 := by unfold nextB; rw [g]; rfl
  rw [this]; exact implNext_no a n o w g
 ·exact implNext_yes a n o w g
end Go.Proofs.Ytjdceoimignnpaa.next
