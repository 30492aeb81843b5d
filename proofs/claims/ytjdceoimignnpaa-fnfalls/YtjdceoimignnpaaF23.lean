import Derived.Test.YtjdceoimignnpaaF05
namespace Go.Proofs.Ytjdceoimignnpaa.next
open Go.ChangeShapes Go.WideShapes Go.ChangeAt Go.RowKit
open Go.Proofs.Ytjdceoimignnpaa.atNil
set_option linter.unusedVariables false
set_option linter.unusedSimpArgs false
/-- above, number and of are such as the document asks for -/
def BM (a n o : Int) : Bool := inB o 1 5 && (inB n 1 o && inB a 0 1000000)
/-- the least ballot of n's above a, were there no last one -/
def yI (a n o : Int) : Int := if a.tdiv o * o + n ≤ a then a.tdiv o * o + n + o else a.tdiv o * o + n
def jE (a n o : Int) : Int := if BM a n o = true then (if 1000000 < yI a n o then 0 else yI a n o) else 0
set_option maxHeartbeats 1000000 in
theorem Bd (a n o : Int) (w : World) (g : BM a n o = false) :
  Calls Try.prog 20 #[.int .i64 a, .int .i64 n, .int .i64 o] w fun e w' => e = .returned (.int .i64 0) ∧ w' = w := by
 unfold BM at g;cases g1 : inB o 1 5
 ·go_enter Try.func20, Try.ntmps20;go_wp2_with (go_at_call 37; refine (bF _ _ _ _).mono ?_; rintro e w' ⟨rfl, rfl⟩);go_ret;exact ⟨rfl, rfl⟩
 ·cases g2 : inB n 1 o
  ·go_enter Try.func20, Try.ntmps20;go_wp2_with (go_at_call 37; refine (bF _ _ _ _).mono ?_; rintro e w' ⟨rfl, rfl⟩);go_ret;exact ⟨rfl, rfl⟩
  ·have g3 : inB a 0 1000000 = false := by simpa [g1, g2] using g
   go_enter Try.func20, Try.ntmps20;go_wp2_with (go_at_call 37; refine (bF _ _ _ _).mono ?_; rintro e w' ⟨rfl, rfl⟩);go_ret;exact ⟨rfl, rfl⟩
theorem Gj {a o : Int} (ha : 0 ≤ a) (h1 : 1 ≤ o) (h2 : o ≤ 5) : 0 ≤ a.tdiv o ∧ a.tdiv o ≤ a ∧ a.tdiv o * o ≤ a ∧ a < a.tdiv o * o + o ∧ a.tmod o = a - a.tdiv o * o := by
 have e : a.tmod o = a - a.tdiv o * o := by
  have := Int.mul_tdiv_add_tmod a o;rw [Int.mul_comm] at this;omega
 rw [e, Int.tdiv_eq_ediv_of_nonneg ha];have k : o = 1 ∨ o = 2 ∨ o = 3 ∨ o = 4 ∨ o = 5 := by omega
 rcases k with rfl | rfl | rfl | rfl | rfl <;> omega
set_option maxHeartbeats 4000000 in
theorem zq (a n o : Int) (w : World) (g : BM a n o = true) :
  Calls Try.prog 20 #[.int .i64 a, .int .i64 n, .int .i64 o] w fun e w' => e = .returned (.int .i64 (jE a n o)) ∧ w' = w := by
 have gg := g;unfold BM at g;simp only [Bool.and_eq_true] at g;obtain ⟨g1, g2, g3⟩ := g;have q1 := bK.1 g1;have q2 := bK.1 g2;have q3 := bK.1 g3;have hv : jE a n o = (if 1000000 < yI a n o then 0 else yI a n o) := by unfold jE; rw [if_pos gg]
 rw [hv];unfold yI;clear hv gg;have Q := Gj q3.1 q1.1 q1.2;have hq : o ≠ 0 := by omega
 by_cases k1 : a.tdiv o * o + n ≤ a
 ·rw [if_pos k1];by_cases k2 : 1000000 < a.tdiv o * o + n + o
  ·rw [if_pos k2];go_enter Try.func20, Try.ntmps20;go_wp2_with (go_at_call 37; refine (bF _ _ _ _).mono ?_; rintro e w' ⟨rfl, rfl⟩; (first | rw [g1] | rw [g2] | rw [g3]));go_ret;exact ⟨rfl, rfl⟩
  ·rw [if_neg k2];go_enter Try.func20, Try.ntmps20;go_wp2_with (go_at_call 37; refine (bF _ _ _ _).mono ?_; rintro e w' ⟨rfl, rfl⟩; (first | rw [g1] | rw [g2] | rw [g3]));go_ret;exact ⟨rfl, rfl⟩
 ·rw [if_neg k1];by_cases k2 : 1000000 < a.tdiv o * o + n
  ·rw [if_pos k2];go_enter Try.func20, Try.ntmps20;go_wp2_with (go_at_call 37; refine (bF _ _ _ _).mono ?_; rintro e w' ⟨rfl, rfl⟩; (first | rw [g1] | rw [g2] | rw [g3]));go_ret;exact ⟨rfl, rfl⟩
  ·rw [if_neg k2];go_enter Try.func20, Try.ntmps20;go_wp2_with (go_at_call 37; refine (bF _ _ _ _).mono ?_; rintro e w' ⟨rfl, rfl⟩; (first | rw [g1] | rw [g2] | rw [g3]));go_ret;exact ⟨rfl, rfl⟩
theorem Ig (a n o : Int) (w : World) :
  Calls Try.prog 20 #[.int .i64 a, .int .i64 n, .int .i64 o] w fun e w' => e = .returned (.int .i64 (jE a n o)) ∧ w' = w := by
 cases g : BM a n o
 ·have : jE a n o = 0 := by unfold jE; rw [g]; rfl
  rw [this]; exact Bd a n o w g
 ·exact zq a n o w g
end Go.Proofs.Ytjdceoimignnpaa.next
