import Derived.Test.YtffklmlljekceaaGreatQ04
namespace Go.Proofs.YtffklmlljekceaaGreat
open Go.ChangeShapes Go.WideShapes Go.ChangeAt Go.RowKit Go.Deep Go.Joins
set_option linter.unusedSimpArgs false
set_option linter.unusedVariables false
set_option maxHeartbeats 4000000
def numAtB (high : Int) (l : List Int) (i : Nat) : Bool := inB (l.getD i 0) 1 high && (decide (i = 0) || decide (l.getD (i - 1) 0 < l.getD i 0))
def numsOkB (high : Int) (l : List Int) : Bool := (List.range l.length).all (numAtB high l)
theorem nums_of {high : Int} {l : List Int} {n : Nat} (hn : l.length = n) (h : ∀ i, i < n → numAtB high l i = true) : numsOkB high l = true := by
 unfold numsOkB
 rw [List.all_eq_true]
 intro i hi
 exact h i (by rw [List.mem_range] at hi; omega)
theorem not_nums_of {high : Int} {l : List Int} {k : Nat} (hk : k < l.length) (h : numAtB high l k = false) : numsOkB high l = false := by
 unfold numsOkB
 rw [List.all_eq_false]
 exact ⟨k, List.mem_range.2 hk, by simp [h]⟩
theorem numAt_first {high : Int} {l : List Int} {z : Int} (hs : l[0]? = some z) (g : inB z 1 high = true) : numAtB high l 0 = true := by
 simp [numAtB, List.getD, hs, g]
theorem numAt_yes {high : Int} {l : List Int} {k : Nat} {y z : Int} (hs : l[k]? = some z) (hp : l[k - 1]? = some y) (g : inB z 1 high = true) (h : y < z) : numAtB high l k = true := by
 simp [numAtB, List.getD, hs, hp, g, h]
theorem numAt_in {high : Int} {l : List Int} {k : Nat} {z : Int} (hs : l[k]? = some z) (g : inB z 1 high = false) : numAtB high l k = false := by
 simp [numAtB, List.getD, hs, g]
theorem numAt_no {high : Int} {l : List Int} {k : Nat} {y z : Int} (hk : 0 < k) (hs : l[k]? = some z) (hp : l[k - 1]? = some y) (h : ¬ y < z) : numAtB high l k = false := by
 have : ¬ k = 0 := by omega
 simp [numAtB, List.getD, hs, hp, h, this]
theorem drewN_drewN {w wr : World} (h : ∃ m, wr = w.drewN m) (n : Nat) : ∃ m, wr.drewN n = w.drewN m := by
 obtain ⟨m, rfl⟩ := h
 exact ⟨m + n, by simp⟩
theorem below_of_drewN {w wr : World} (h : ∃ m, wr = w.drewN m) : Below w.heap.size w wr := by
 obtain ⟨m, rfl⟩ := h
 exact below_drewN (Below.refl _ _) m
theorem specNumbers (a : Option Addr) (l : List Int) (n cap : Nat) (of_ : Int) (w : World) (hn : l.length = n) (hc : n ≤ maxLen) (h : IntsAt w a l) :
  Calls Tryz.prog 73 #[.slice a n cap, .int .i64 of_] w fun e w' => e = .returned (.bool (numsOkB of_ l)) ∧ ∃ m, w' = w.drewN m := by
 unfold maxLen at hc
 have HL : Hid (l.length = n) := hn
 clear hn
 go_enter Tryz.func73, Tryz.ntmps73
 go_wp2
 go_loopw [5] (fun i wr => ∃ (k : Nat), k ≤ n ∧ i = .int .i64 k ∧ (∀ j, j < k → numAtB of_ l j = true) ∧ ∃ m, wr = w.drewN m) (fun i _ => n - (intOf i).toNat)
 case atStart => exact ⟨0, Nat.zero_le _, rfl, fun j hj => absurd hj (by omega), 0, rfl⟩
 obtain ⟨k, hk, rfl, hall0, hm0⟩ := hrel
 have hall : Hid (∀ j, j < k → numAtB of_ l j = true) := hall0
 have hm : Hid (∃ m, wr = w.drewN m) := hm0
 have hA := h.ext (below_of_drewN hm0)
 clear hall0 hm0 h
 by_cases hlt : k < n
 ·obtain ⟨z, hs0⟩ : ∃ s, l[k]? = some s := ⟨_, List.getElem?_eq_getElem (by rw [HL.out]; exact hlt)⟩
  have hs : Hid (l[k]? = some z) := hs0
  obtain ⟨b, off, rfl, hb, c0, _⟩ := hA k z hs0
  clear hs0
  have e1 : (0 : Int) ≤ (k : Int) := by omega
  have e2 : (k : Int) < (n : Int) := by omega
  have hkl : Hid (k < l.length) := by unfold Hid; rw [HL.out]; exact hlt
  cases g1 : inB z 1 of_
  ·go_wp2_with fail
   go_quiet ((go_at_call 70; exact Calls.quiet_of_same (l1In_any _ _ _ _)))
   go_wp2
   go_ret
   exact ⟨by rw [not_nums_of hkl.out (numAt_in hs.out g1)]; rfl, drewN_drewN hm.out _⟩
  by_cases hk0 : 0 < k
  ·obtain ⟨y, hs1⟩ : ∃ s, l[k-1]? = some s := ⟨_, List.getElem?_eq_getElem (by rw [HL.out]; omega)⟩
   have hp : Hid (l[k-1]? = some y) := hs1
   obtain ⟨b', off', e, hb', c1, _⟩ := hA (k-1) y hs1
   simp only [Option.some.injEq, Addr.mk.injEq, and_true] at e
   obtain ⟨rfl, rfl⟩ := e
   clear hs1
   have u1 : (0 : Int) < (k : Int) := by omega
   have u2 : decide ((0 : Int) < (k : Int)) = true := decide_eq_true u1
   have u3 : (0 : Int) ≤ (k : Int) - 1 := by omega
   have u4 : (k : Int) - 1 < (n : Int) := by omega
   have u5 : ((k : Int) - 1).toNat = k - 1 := by omega
   by_cases hy : y < z
   ·have u6 : decide (z ≤ y) = false := decide_eq_false (by omega)
    go_wp2_with fail
    go_quiet ((go_at_call 70; exact Calls.quiet_of_same (l1In_any _ _ _ _)))
    go_wp2
    go_roundw
    case rel =>
     refine ⟨k + 1, by omega, by go_num, fun j hj => ?_, drewN_drewN hm.out _⟩
     by_cases he : j = k
     ·rw [he]; exact numAt_yes hs.out hp.out g1 hy
     exact hall.out j (by omega)
    case measure => simp [intOf]; omega
   have u6 : decide (z ≤ y) = true := decide_eq_true (by omega)
   go_wp2_with fail
   go_quiet ((go_at_call 70; exact Calls.quiet_of_same (l1In_any _ _ _ _)))
   go_wp2
   go_ret
   exact ⟨by rw [not_nums_of hkl.out (numAt_no hk0 hs.out hp.out (by omega))]; rfl, drewN_drewN hm.out _⟩
  have u2 : decide ((0 : Int) < (k : Int)) = false := decide_eq_false (by omega)
  go_wp2_with fail
  go_quiet ((go_at_call 70; exact Calls.quiet_of_same (l1In_any _ _ _ _)))
  go_wp2
  go_roundw
  case rel =>
   refine ⟨k + 1, by omega, by go_num, fun j hj => ?_, drewN_drewN hm.out _⟩
   have hk9 : k = 0 := by omega
   have hj9 : j = 0 := by omega
   have := hs.out
   rw [hk9] at this
   rw [hj9]; exact numAt_first this g1
  case measure => simp [intOf]; omega
 go_wp2
 go_ret
 exact ⟨by rw [nums_of HL.out (fun i hi => hall.out i (by omega))]; rfl, hm.out⟩
theorem asc_test {high : Int} {l : List Int} {k : Nat} {z L : Int} (hs : l[k]? = some z) (h0 : k = 0 → L = 0) (h1 : 0 < k → l[k - 1]? = some L) (hL : 0 ≤ L) : numAtB high l k = inB z (L + 1) high := by
 rw [Bool.eq_iff_iff, inB_iff]
 by_cases hk : k = 0
 ·have := h0 hk
  subst hk
  simp [numAtB, List.getD, hs, inB]
  omega
 have hp := h1 (by omega)
 simp [numAtB, List.getD, hs, hp, inB, hk]
 omega
theorem ascInts (a : Option Addr) (l : List Int) (n cap : Nat) (of_ : Int) (w : World) (hn : l.length = n) (hc : n ≤ maxLen) (hof : of_ ≤ 1000000) (h : IntsAt w a l) :
  Calls Tryz.prog 127 #[.slice a n cap, .func (.func 128) #[] #[], .int .i64 of_] w fun e w' => e = .returned (.bool (numsOkB of_ l)) ∧ w' = w := by
 unfold maxLen at hc
 have HL : Hid (l.length = n) := hn
 clear hn
 go_enter Tryz.func127, Tryz.ntmps127
 go_wp2
 go_loop [7, 12] (fun v i => ∃ (k : Nat) (L : Int), k ≤ n ∧ i = .int .i64 k ∧ v = .int .i64 L ∧ 0 ≤ L ∧ L ≤ 1000000 ∧ (k = 0 → L = 0) ∧ (0 < k → l[k - 1]? = some L) ∧ (∀ j, j < k → numAtB of_ l j = true)) (fun _ i => n - (intOf i).toNat)
 case atStart => exact ⟨0, 0, Nat.zero_le _, rfl, rfl, by omega, by omega, fun _ => rfl, fun h => absurd h (by omega), fun j hj => absurd hj (by omega)⟩
 obtain ⟨k, L, hk, rfl, rfl, hL0, hL1, q0, q1, hall0⟩ := hrel
 have HH : Hid ((k = 0 → L = 0) ∧ (0 < k → l[k - 1]? = some L) ∧ (∀ j, j < k → numAtB of_ l j = true)) := ⟨q0, q1, hall0⟩
 clear q0 q1 hall0
 by_cases hlt : k < n
 ·obtain ⟨z, hs0⟩ : ∃ s, l[k]? = some s := ⟨_, List.getElem?_eq_getElem (by rw [HL.out]; exact hlt)⟩
  have hs : Hid (l[k]? = some z) := hs0
  obtain ⟨b, off, rfl, hb, c0, _⟩ := h k z hs0
  have HT : Hid (numAtB of_ l k = inB z (L + 1) of_) := asc_test hs0 HH.out.1 HH.out.2.1 hL0
  clear hs0
  have e1 : (0 : Int) ≤ (k : Int) := by omega
  have e2 : (k : Int) < (n : Int) := by omega
  have hkl : Hid (k < l.length) := by unfold Hid; rw [HL.out]; exact hlt
  cases g1 : inB z (L + 1) of_
  ·go_wp2_with (first
    | (go_at_call 89; refine (within_any _ _ _ _).mono ?_; rintro e w' ⟨rfl, rfl⟩)
    | (go_at_call 128; go_in))
   go_ret
   exact ⟨by rw [not_nums_of hkl.out (by rw [HT.out, g1])]; rfl, rfl⟩
  have hz := inB_iff.1 g1
  go_wp2_with (first
   | (go_at_call 89; refine (within_any _ _ _ _).mono ?_; rintro e w' ⟨rfl, rfl⟩)
   | (go_at_call 128; go_in))
  go_round
  case rel =>
   refine ⟨k + 1, z, by omega, by go_num, rfl, by omega, by omega, fun h => absurd h (by omega), fun _ => hs.out, fun j hj => ?_⟩
   by_cases he : j = k
   ·rw [he, HT.out, g1]
   exact HH.out.2.2 j (by omega)
  case measure => simp [intOf]; omega
 go_wp2
 go_ret
 exact ⟨by rw [nums_of HL.out (fun i hi => HH.out.2.2 i (by omega))]; rfl, rfl⟩
theorem implNumbers (a : Option Addr) (l : List Int) (n cap : Nat) (of_ : Int) (w : World) (hn : l.length = n) (hc : n ≤ maxLen) (hof : of_ ≤ 1000000) (h : IntsAt w a l) :
  Calls Tryz.prog 90 #[.slice a n cap, .int .i64 of_] w fun e w' => e = .returned (.bool (numsOkB of_ l)) ∧ w' = w := by
 have HL : Hid (l.length = n) := hn
 clear hn
 go_enter Tryz.func90, Tryz.ntmps90
 go_wp2_with (go_at_call 127; refine (ascInts a l n cap of_ _ HL.out hc hof h).mono ?_; rintro e w' ⟨rfl, rfl⟩)
 go_ret
 exact ⟨rfl, rfl⟩
def keysOf (l : List Ak) : List Int := l.map fun s => s.1
theorem keys_at {l : List Ak} {k : Nat} {s : Ak} (h : l[k]? = some s) : (keysOf l)[k]? = some s.1 := by simp [keysOf, h]
theorem keys_len (l : List Ak) : (keysOf l).length = l.length := by simp [keysOf]
def acksOkB (of_ : Int) (l : List Ak) : Bool := numsOkB 60 (keysOf l) && l.all fun s => numsOkB of_ s.2
theorem acks_of {of_ : Int} {l : List Ak} {n : Nat} (hn : l.length = n) (h1 : ∀ i, i < n → numAtB 60 (keysOf l) i = true) (h2 : ∀ (i : Nat) s, i < n → l[i]? = some s → numsOkB of_ s.2 = true) : acksOkB of_ l = true := by
 unfold acksOkB
 rw [nums_of (by rw [keys_len, hn]) h1, Bool.true_and, List.all_eq_true]
 intro s hs
 obtain ⟨i, hi, rfl⟩ := List.getElem_of_mem hs
 exact h2 i _ (by omega) (List.getElem?_eq_getElem hi)
theorem not_acks_key {of_ : Int} {l : List Ak} {k : Nat} {s : Ak} (hs : l[k]? = some s) (h : numAtB 60 (keysOf l) k = false) : acksOkB of_ l = false := by
 unfold acksOkB
 rw [not_nums_of (by rw [keys_len]; exact (List.getElem?_eq_some_iff.1 hs).1) h, Bool.false_and]
theorem not_acks_from {of_ : Int} {l : List Ak} {k : Nat} {s : Ak} (hs : l[k]? = some s) (h : numsOkB of_ s.2 = false) : acksOkB of_ l = false := by
 unfold acksOkB
 rw [show (l.all fun s => numsOkB of_ s.2) = false from by rw [List.all_eq_false]; exact ⟨s, List.mem_of_getElem? hs, by simp [h]⟩, Bool.and_false]
theorem specAcksOk (a : Option Addr) (l : List Ak) (n cap : Nat) (of_ : Int) (w : World) (hn : l.length = n) (hc : n ≤ maxLen) (h : AcksAt w a l) :
  Calls Tryz.prog 75 #[.slice a n cap, .int .i64 of_] w fun e w' => e = .returned (.bool (acksOkB of_ l)) ∧ ∃ m, w' = w.drewN m := by
 unfold maxLen at hc
 have HL : Hid (l.length = n) := hn
 clear hn
 go_enter Tryz.func75, Tryz.ntmps75
 go_wp2
 go_loopw [5] (fun i wr => ∃ (k : Nat), k ≤ n ∧ i = .int .i64 k ∧ (∀ j, j < k → numAtB 60 (keysOf l) j = true) ∧ (∀ (j : Nat) s, j < k → l[j]? = some s → numsOkB of_ s.2 = true) ∧ ∃ m, wr = w.drewN m) (fun i _ => n - (intOf i).toNat)
 case atStart => exact ⟨0, Nat.zero_le _, rfl, fun j hj => absurd hj (by omega), fun j s hj => absurd hj (by omega), 0, rfl⟩
 obtain ⟨k, hk, rfl, hall0, hall1, hm0⟩ := hrel
 have hall : Hid ((∀ j, j < k → numAtB 60 (keysOf l) j = true) ∧ (∀ (j : Nat) s, j < k → l[j]? = some s → numsOkB of_ s.2 = true)) := ⟨hall0, hall1⟩
 have hm : Hid (∃ m, wr = w.drewN m) := hm0
 have hA := h.ext (below_of_drewN hm0)
 clear hall0 hall1 hm0 h
 by_cases hlt : k < n
 ·obtain ⟨s, hs0⟩ : ∃ s, l[k]? = some s := ⟨_, List.getElem?_eq_getElem (by rw [HL.out]; exact hlt)⟩
  have hs : Hid (l[k]? = some s) := hs0
  obtain ⟨b, off, sa, cp, rfl, hb, c0, c1, q1, q2, q3⟩ := hA k s hs0
  clear hs0
  have e1 : (0 : Int) ≤ (k : Int) := by omega
  have e2 : (k : Int) < (n : Int) := by omega
  cases g1 : inB s.1 1 60
  ·go_wp2_with fail
   go_quiet (first | (go_at_call 70; exact Calls.quiet_of_same (l1In_any _ _ _ _)) | (go_at_call 73; refine Calls.quiet_of (specNumbers _ s.2 _ _ _ _ rfl q2 ?_); exact q3.ext (below_drewN (Below.refl _ _) _)))
   go_wp2
   go_ret
   exact ⟨by rw [not_acks_key hs.out (numAt_in (keys_at hs.out) g1)]; rfl, drewN_drewN hm.out _⟩
  cases g2 : numsOkB of_ s.2
  ·go_wp2_with fail
   go_quiet (first | (go_at_call 70; exact Calls.quiet_of_same (l1In_any _ _ _ _)) | (go_at_call 73; refine Calls.quiet_of (specNumbers _ s.2 _ _ _ _ rfl q2 ?_); exact q3.ext (below_drewN (Below.refl _ _) _)))
   go_wp2
   go_ret
   exact ⟨by rw [not_acks_from hs.out g2]; rfl, drewN_drewN hm.out _⟩
  by_cases hk0 : 0 < k
  ·obtain ⟨y, hs1⟩ : ∃ s, l[k-1]? = some s := ⟨_, List.getElem?_eq_getElem (by rw [HL.out]; omega)⟩
   have hp : Hid (l[k-1]? = some y) := hs1
   obtain ⟨b', off', sa', cp', e, hb', d0, d1, _⟩ := hA (k-1) y hs1
   simp only [Option.some.injEq, Addr.mk.injEq, and_true] at e
   obtain ⟨rfl, rfl⟩ := e
   clear hs1
   have u1 : (0 : Int) < (k : Int) := by omega
   have u2 : decide ((0 : Int) < (k : Int)) = true := decide_eq_true u1
   have u3 : (0 : Int) ≤ (k : Int) - 1 := by omega
   have u4 : (k : Int) - 1 < (n : Int) := by omega
   have u5 : ((k : Int) - 1).toNat = k - 1 := by omega
   by_cases hy : y.1 < s.1
   ·have u6 : decide (s.1 ≤ y.1) = false := decide_eq_false (by omega)
    go_wp2_with fail
    go_quiet (first | (go_at_call 70; exact Calls.quiet_of_same (l1In_any _ _ _ _)) | (go_at_call 73; refine Calls.quiet_of (specNumbers _ s.2 _ _ _ _ rfl q2 ?_); exact q3.ext (below_drewN (Below.refl _ _) _)))
    go_wp2
    go_roundw
    case rel =>
     refine ⟨k + 1, by omega, by go_num, fun j hj => ?_, fun j t hj ht => ?_, drewN_drewN hm.out _⟩
     ·by_cases he : j = k
      ·rw [he]; exact numAt_yes (keys_at hs.out) (keys_at hp.out) g1 hy
      exact hall.out.1 j (by omega)
     by_cases he : j = k
     ·subst he; rw [hs.out] at ht; simp only [Option.some.injEq] at ht; rw [← ht]; exact g2
     exact hall.out.2 j t (by omega) ht
    case measure => simp [intOf]; omega
   have u6 : decide (s.1 ≤ y.1) = true := decide_eq_true (by omega)
   go_wp2_with fail
   go_quiet (first | (go_at_call 70; exact Calls.quiet_of_same (l1In_any _ _ _ _)) | (go_at_call 73; refine Calls.quiet_of (specNumbers _ s.2 _ _ _ _ rfl q2 ?_); exact q3.ext (below_drewN (Below.refl _ _) _)))
   go_wp2
   go_ret
   exact ⟨by rw [not_acks_key hs.out (numAt_no hk0 (keys_at hs.out) (keys_at hp.out) (by omega))]; rfl, drewN_drewN hm.out _⟩
  have u2 : decide ((0 : Int) < (k : Int)) = false := decide_eq_false (by omega)
  go_wp2_with fail
  go_quiet (first | (go_at_call 70; exact Calls.quiet_of_same (l1In_any _ _ _ _)) | (go_at_call 73; refine Calls.quiet_of (specNumbers _ s.2 _ _ _ _ rfl q2 ?_); exact q3.ext (below_drewN (Below.refl _ _) _)))
  go_wp2
  go_roundw
  case rel =>
   have hk9 : k = 0 := by omega
   have h9 := hs.out
   rw [hk9] at h9
   refine ⟨k + 1, by omega, by go_num, fun j hj => ?_, fun j t hj ht => ?_, drewN_drewN hm.out _⟩
   ·have hj9 : j = 0 := by omega
    rw [hj9]; exact numAt_first (keys_at h9) g1
   have hj9 : j = 0 := by omega
   rw [hj9, h9] at ht; simp only [Option.some.injEq] at ht; rw [← ht]; exact g2
  case measure => simp [intOf]; omega
 go_wp2
 go_ret
 exact ⟨by rw [acks_of HL.out (fun i hi => hall.out.1 i (by omega)) (fun i s hi hs => hall.out.2 i s (by omega) hs)]; rfl, hm.out⟩
theorem ackIndex_any (s : Ak) (v : Value) (w : World) :
  Calls Tryz.prog 131 #[.agg #[.int .i64 s.1, v]] w fun e w' => e = .returned (.int .i64 s.1) ∧ w' = w.alloc (.cells #[.int .i64 s.1, v] 105) := by
 go_enter Tryz.func131, Tryz.ntmps131
 go_wp2
 go_ret
 exact ⟨rfl, rfl⟩
theorem ascAcks (a : Option Addr) (l : List Ak) (n cap : Nat) (w : World) (hn : l.length = n) (hc : n ≤ maxLen) (h : AcksAt w a l) :
  Calls Tryz.prog 130 #[.slice a n cap, .func (.func 131) #[] #[], .int .i64 60] w fun e w' => e = .returned (.bool (numsOkB 60 (keysOf l))) ∧ Below w.heap.size w w' := by
 unfold maxLen at hc
 have HL : Hid (l.length = n) := hn
 clear hn
 go_enter Tryz.func130, Tryz.ntmps130
 go_wp2
 go_loopw [7, 12] (fun v i wr => ∃ (k : Nat) (L : Int), k ≤ n ∧ i = .int .i64 k ∧ v = .int .i64 L ∧ 0 ≤ L ∧ L ≤ 60 ∧ (k = 0 → L = 0) ∧ (0 < k → (keysOf l)[k - 1]? = some L) ∧ (∀ j, j < k → numAtB 60 (keysOf l) j = true) ∧ Below w.heap.size w wr) (fun _ i _ => n - (intOf i).toNat)
 case atStart => exact ⟨0, 0, Nat.zero_le _, rfl, rfl, by omega, by omega, fun _ => rfl, fun h => absurd h (by omega), fun j hj => absurd hj (by omega), Below.refl _ _⟩
 obtain ⟨k, L, hk, rfl, rfl, hL0, hL1, q0, q1, hall0, hbel⟩ := hrel
 have HH : Hid ((k = 0 → L = 0) ∧ (0 < k → (keysOf l)[k - 1]? = some L) ∧ (∀ j, j < k → numAtB 60 (keysOf l) j = true)) := ⟨q0, q1, hall0⟩
 clear q0 q1 hall0
 by_cases hlt : k < n
 ·obtain ⟨s, hs0⟩ : ∃ s, l[k]? = some s := ⟨_, List.getElem?_eq_getElem (by rw [HL.out]; exact hlt)⟩
  have hs : Hid (l[k]? = some s) := hs0
  obtain ⟨b, off, sa, cp, rfl, hb, c0, c1, q1, q2, q3⟩ := (h.ext hbel) k s hs0
  have HT : Hid (numAtB 60 (keysOf l) k = inB s.1 (L + 1) 60) := asc_test (keys_at hs0) HH.out.1 HH.out.2.1 hL0
  clear hs0
  have e1 : (0 : Int) ≤ (k : Int) := by omega
  have e2 : (k : Int) < (n : Int) := by omega
  have hkl : Hid (k < (keysOf l).length) := by unfold Hid; rw [keys_len, HL.out]; exact hlt
  cases g1 : inB s.1 (L + 1) 60
  ·go_wp2_with (first
    | (go_at_call 89; refine (within_any _ _ _ _).mono ?_; rintro e w' ⟨rfl, rfl⟩)
    | (go_at_call 131; refine (ackIndex_any s _ _).mono ?_; rintro e w' ⟨rfl, rfl⟩))
   go_ret
   exact ⟨by rw [not_nums_of hkl.out (by rw [HT.out, g1])]; rfl, ext_alloc (ext_alloc hbel _) _⟩
  have hz := inB_iff.1 g1
  go_wp2_with (first
   | (go_at_call 89; refine (within_any _ _ _ _).mono ?_; rintro e w' ⟨rfl, rfl⟩)
   | (go_at_call 131; refine (ackIndex_any s _ _).mono ?_; rintro e w' ⟨rfl, rfl⟩))
  go_roundw
  case rel =>
   refine ⟨k + 1, s.1, by omega, by go_num, rfl, by omega, by omega, fun h => absurd h (by omega), fun _ => keys_at hs.out, fun j hj => ?_, ext_alloc (ext_alloc (ext_alloc hbel _) _) _⟩
   by_cases he : j = k
   ·rw [he, HT.out, g1]
   exact HH.out.2.2 j (by omega)
  case measure => simp [intOf]; omega
 go_wp2
 go_ret
 exact ⟨by rw [nums_of (by rw [keys_len, HL.out]) (fun i hi => HH.out.2.2 i (by omega))]; rfl, hbel⟩
theorem implAcksOk (a : Option Addr) (l : List Ak) (n cap : Nat) (of_ : Int) (w : World) (hn : l.length = n) (hc : n ≤ maxLen) (hof : of_ ≤ 1000000) (h : AcksAt w a l) :
  Calls Tryz.prog 92 #[.slice a n cap, .int .i64 of_] w fun e w' => e = .returned (.bool (acksOkB of_ l)) ∧ Below w.heap.size w w' := by
 have HC : Hid (n ≤ maxLen) := hc
 unfold maxLen at hc
 have HL : Hid (l.length = n) := hn
 clear hn
 go_enter Tryz.func92, Tryz.ntmps92
 go_wp2
 go_loopw [9] (fun i wr => ∃ (k : Nat), k ≤ n ∧ i = .int .i64 k ∧ (∀ (j : Nat) s, j < k → l[j]? = some s → numsOkB of_ s.2 = true) ∧ Below w.heap.size w wr) (fun i _ => n - (intOf i).toNat)
 case atStart => exact ⟨0, Nat.zero_le _, rfl, fun j s hj => absurd hj (by omega), Below.refl _ _⟩
 obtain ⟨k, hk, rfl, hall0, hbel⟩ := hrel
 have hall : Hid (∀ (j : Nat) s, j < k → l[j]? = some s → numsOkB of_ s.2 = true) := hall0
 clear hall0
 by_cases hlt : k < n
 ·obtain ⟨s, hs0⟩ : ∃ s, l[k]? = some s := ⟨_, List.getElem?_eq_getElem (by rw [HL.out]; exact hlt)⟩
  have hs : Hid (l[k]? = some s) := hs0
  obtain ⟨b, off, sa, cp, rfl, hb, c0, c1, q1, q2, q3⟩ := (h.ext hbel) k s hs0
  clear hs0
  have e1 : (0 : Int) ≤ (k : Int) := by omega
  have e2 : (k : Int) < (n : Int) := by omega
  cases g2 : numsOkB of_ s.2
  ·go_wp2_with (go_at_call 90; refine (implNumbers _ s.2 _ _ _ _ rfl q2 hof (by exact q3.ext (ext_alloc (Below.refl _ _) _))).mono ?_; rintro e w' ⟨rfl, rfl⟩)
   go_ret
   exact ⟨by rw [not_acks_from hs.out g2]; rfl, ext_alloc hbel _⟩
  go_wp2_with (go_at_call 90; refine (implNumbers _ s.2 _ _ _ _ rfl q2 hof (by exact q3.ext (ext_alloc (Below.refl _ _) _))).mono ?_; rintro e w' ⟨rfl, rfl⟩)
  go_roundw
  case rel =>
   refine ⟨k + 1, by omega, by go_num, fun j t hj ht => ?_, ext_alloc hbel _⟩
   by_cases he : j = k
   ·subst he; rw [hs.out] at ht; simp only [Option.some.injEq] at ht; rw [← ht]; exact g2
   exact hall.out j t (by omega) ht
  case measure => simp [intOf]; omega
 go_wp2_with (go_at_call 130; refine (ascAcks a l n cap _ HL.out HC.out (h.ext hbel)).mono ?_; rintro e w' ⟨rfl, hb'⟩)
 go_ret
 refine ⟨?_, ext_trans hbel hb'⟩
 have hfull : (l.all fun s => numsOkB of_ s.2) = true := by
  rw [List.all_eq_true]
  intro s hs
  obtain ⟨i, hi, rfl⟩ := List.getElem_of_mem hs
  exact hall.out i _ (by have := HL.out; omega) (List.getElem?_eq_getElem hi)
 rw [show acksOkB of_ l = numsOkB 60 (keysOf l) by unfold acksOkB; rw [hfull, Bool.and_true]]
 rfl
end Go.Proofs.YtffklmlljekceaaGreat
