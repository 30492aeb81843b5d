import Derived.Test.YtffklmlljekceaaGreatQ25
import Derived.Test.YtffklmlljekceaaGreatQ26
namespace Go.Proofs.YtffklmlljekceaaGreat
open Go.ChangeShapes Go.WideShapes Go.ChangeAt Go.RowKit
set_option linter.unusedSimpArgs false
set_option linter.unusedVariables false
set_option maxHeartbeats 16000000
set_option maxRecDepth 20000
theorem wf_small {z : Int} (h0 : 0 ≤ z) (h1 : z ≤ 1000000) : wfI z := by
 have a : IntKind.i64.min = -9223372036854775808 := by rfl
 have b : IntKind.i64.max = 9223372036854775807 := by rfl
 unfold wfI
 simp [Lit.wf, a, b]
 omega
structure TakeOk (r : Rc) : Prop where
 d0 : 0 ≤ r.dk
 d1 : r.dk ≤ r.ds.length
 sm : RcSmall r
 ye : r.yes.length ≤ 100000
 ba : wfI r.ball
 a1 : r.acks.length ≤ 100000
 a2 : ∀ (j : Nat) a, r.acks[j]? = some a → a.2.length ≤ 100000
theorem nums_at {high : Int} {l : List Int} (h : numsOkB high l = true) : ∀ (i : Nat), i < l.length → ((i : Int) + 1 ≤ l.getD i 0 ∧ l.getD i 0 ≤ high) := by
 intro i
 induction i with
 | zero =>
  intro hi
  have h0 := List.all_eq_true.1 h 0 (List.mem_range.2 hi)
  simp only [numAtB, Bool.and_eq_true, inB_iff] at h0
  exact ⟨by have := h0.1.1; omega, h0.1.2⟩
 | succ i ih =>
  intro hi
  have h0 := List.all_eq_true.1 h (i + 1) (List.mem_range.2 hi)
  simp only [numAtB, Bool.and_eq_true, inB_iff, Bool.or_eq_true, decide_eq_true_eq, Nat.add_sub_cancel] at h0
  have h1 := (ih (by omega)).1
  refine ⟨?_, h0.1.2⟩
  rcases h0.2 with h2 | h2
  ·omega
  have h3 : (((i + 1 : Nat) : Int)) = (i : Int) + 1 := by omega
  rw [h3]
  omega
theorem nums_len {high : Int} {l : List Int} (h : numsOkB high l = true) (h0 : 0 ≤ high) : (l.length : Int) ≤ high := by
 rcases Nat.eq_zero_or_pos l.length with e | e
 ·omega
 have := nums_at h (l.length - 1) (by omega)
 omega
theorem valid_take {r : Rc} (h : validB r = true) (hS : RcSmall r) : TakeOk r := by
 have hk := valid_knows h
 unfold validB at h
 simp only [Bool.and_eq_true] at h
 obtain ⟨⟨⟨⟨⟨⟨⟨⟨⟨⟨⟨⟨h1, h2⟩, h3⟩, h4⟩, h5⟩, h6⟩, h7⟩, h8⟩, h9⟩, h10⟩, h11⟩, h12⟩, h13⟩ := h
 have o1 := inB_iff.1 h1
 have dp : r.dp ≤ 1000000 := by
  simp only [diskOkB, Bool.and_eq_true] at h4
  exact (inB_iff.1 h4.1.1.1).2
 have hy := nums_len h8 (by omega)
 have hac := h10
 simp only [acksOkB, Bool.and_eq_true] at hac
 have ha := nums_len hac.1 (by omega)
 rw [keys_len] at ha
 have hball : 0 ≤ r.ball ∧ r.ball ≤ 1000000 := by
  unfold roleB at h12
  split at h12
  ·simp only [leadB, Bool.and_eq_true] at h12
   have := inB_iff.1 h12.1.1
   omega
  split at h12
  ·simp only [tryB, Bool.and_eq_true] at h12
   have := inB_iff.1 h12.1
   omega
  simp only [calmB, Bool.and_eq_true, decide_eq_true_eq] at h12
  omega
 refine ⟨hk.1, hk.2.1, hS, by omega, wf_small hball.1 hball.2, by omega, fun j a hj => ?_⟩
 have := List.all_eq_true.1 hac.2 a (List.mem_of_getElem? hj)
 have := nums_len this (by omega)
 omega
structure Sm (r : Rc) : Prop where
 s : RcSmall r
 h : r.held.length ≤ 400
theorem ackL_len : ∀ (l : List Ak) (i f : Int), (ackL l i f).length ≤ l.length + 1
 | [], _, _ => by simp [ackL]
 | x :: l, i, f => by
  unfold ackL
  split
  ·have := ackL_len l i f; simp; omega
  split <;> simp
theorem leadL_len (b : Int) : ∀ (t : List Sl) (i : Nat) (ds : List Sl), (leadL b t i ds).length ≤ max ds.length (i + t.length)
 | [], i, ds => by simp [leadL]; omega
 | s :: t, i, ds => by
  have := leadL_len b t (i + 1) (setL ds (i + 1) (b, s.2))
  rw [setL_len] at this
  simp only [leadL, List.length_cons]
  omega
theorem valid_sm {r : Rc} (h : validB r = true) (hS : RcSmall r) : Sm r := by
 refine ⟨hS, ?_⟩
 unfold validB at h
 simp only [Bool.and_eq_true] at h
 have h5 := h.1.1.1.1.1.1.1.1.2
 simp only [heldOkB, Bool.and_eq_true, decide_eq_true_eq] at h5
 exact h5.1
end Go.Proofs.YtffklmlljekceaaGreat
