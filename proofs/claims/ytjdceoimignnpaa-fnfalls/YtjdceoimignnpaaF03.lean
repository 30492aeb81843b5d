import Derived.Test.YtjdceoimignnpaaF02
namespace Go.Proofs.Ytjdceoimignnpaa
open Go.ChangeShapes Go.WideShapes Go.ChangeAt Go.RowKit Go.Deep Go.Joins
set_option linter.unusedVariables false
set_option linter.unusedSimpArgs false
set_option maxHeartbeats 4000000
variable {s : Ak} {t : ByteArray} {of_ : Int} {l : List ByteArray} {k n : Nat}
def keysOf (l : List Ak) : List Int := l.map fun s => s.1
theorem nC {l : List Ak} (h : l[k]? = some s) : (keysOf l)[k]? = some s.1 := by simp [keysOf, h]
theorem oq (l : List Ak) : (keysOf l).length = l.length := by simp [keysOf]
def dZ (of_ : Int) (l : List Ak) : Bool := dh 60 (keysOf l) && l.all fun s => dh of_ s.2
theorem Jk {l : List Ak} (hn : l.length = n) (h1 : ∀ i, i < n → dX 60 (keysOf l) i = true) (h2 : ∀ (i : Nat) s, i < n → l[i]? = some s → dh of_ s.2 = true) : dZ of_ l = true := by
 unfold dZ;rw [qP (by rw [oq, hn]) h1, Bool.true_and, List.all_eq_true];intro s hs;obtain ⟨i, hi, rfl⟩ := List.getElem_of_mem hs;exact h2 i _ (by omega) (List.getElem?_eq_getElem hi)
theorem uF {l : List Ak} (hs : l[k]? = some s) (h : dX 60 (keysOf l) k = false) : dZ of_ l = false := by
 unfold dZ;rw [jR (by rw [oq]; exact (List.getElem?_eq_some_iff.1 hs).1) h, Bool.false_and]
theorem rM {l : List Ak} (hs : l[k]? = some s) (h : dh of_ s.2 = false) : dZ of_ l = false := by
 unfold dZ;rw [show (l.all fun s => dh of_ s.2) = false from by rw [List.all_eq_false]; exact ⟨s, List.mem_of_getElem? hs, by simp [h]⟩, Bool.and_false]
theorem BQ (a : Option Addr) (l : List Ak) (n cap : Nat) (of_ : Int) (w : World) (hn : l.length = n) (hc : n ≤ maxLen) (h : nP w a l) :
  Calls Try.prog 41 #[.slice a n cap, .int .i64 of_] w fun e w' => e = .returned (.bool (dZ of_ l)) ∧ ∃ m, w' = w.drewN m := by
 unfold maxLen at hc;have HL : Hid (l.length = n) := hn;clear hn;go_enter Try.func41, Try.ntmps41;go_wp2;go_loopw [5] (fun i wr => ∃ (k : Nat), k ≤ n ∧ i = .int .i64 k ∧ (∀ j, j < k → dX 60 (keysOf l) j = true) ∧ (∀ (j : Nat) s, j < k → l[j]? = some s → dh of_ s.2 = true) ∧ ∃ m, wr = w.drewN m) (fun i _ => n - (intOf i).toNat);case atStart => exact ⟨0, Nat.zero_le _, rfl, fun j hj => absurd hj (by omega), fun j s hj => absurd hj (by omega), 0, rfl⟩
 obtain ⟨k, hk, rfl, hall0, hall1, hm0⟩ := hrel;have hall : Hid ((∀ j, j < k → dX 60 (keysOf l) j = true) ∧ (∀ (j : Nat) s, j < k → l[j]? = some s → dh of_ s.2 = true)) := ⟨hall0, hall1⟩
 have hm : Hid (∃ m, wr = w.drewN m) := hm0;have hA := h.ext (iO hm0);clear hall0 hall1 hm0 h;by_cases hlt : k < n
 ·obtain ⟨s, hs0⟩ : ∃ s, l[k]? = some s := ⟨_, List.getElem?_eq_getElem (by rw [HL.out]; exact hlt)⟩
  have hs : Hid (l[k]? = some s) := hs0;obtain ⟨b, off, sa, cp, rfl, hb, c0, c1, q1, q2, q3⟩ := hA k s hs0;clear hs0;have e1 : (0 : Int) ≤ (k : Int) := by omega
  have e2 : (k : Int) < (n : Int) := by omega
  cases g1 : inB s.1 1 60
  ·go_wp2_with fail
   go_quiet (first | (go_at_call 37; exact Calls.quiet_of_same (bF _ _ _ _)) | (go_at_call 39; refine Calls.quiet_of (jT _ s.2 _ _ _ _ rfl q2 ?_); exact q3.ext (below_drewN (Below.refl _ _) _)))
   go_wp2;go_ret;exact ⟨by rw [uF hs.out (wZ (nC hs.out) g1)]; rfl, drewN_drewN hm.out _⟩
  cases g2 : dh of_ s.2
  ·go_wp2_with fail
   go_quiet (first | (go_at_call 37; exact Calls.quiet_of_same (bF _ _ _ _)) | (go_at_call 39; refine Calls.quiet_of (jT _ s.2 _ _ _ _ rfl q2 ?_); exact q3.ext (below_drewN (Below.refl _ _) _)))
   go_wp2;go_ret;exact ⟨by rw [rM hs.out g2]; rfl, drewN_drewN hm.out _⟩
  by_cases hk0 : 0 < k
  ·obtain ⟨y, hs1⟩ : ∃ s, l[k-1]? = some s := ⟨_, List.getElem?_eq_getElem (by rw [HL.out]; omega)⟩
   have hp : Hid (l[k-1]? = some y) := hs1;obtain ⟨b', off', sa', cp', e, hb', d0, d1, _⟩ := hA (k-1) y hs1;simp only [Option.some.injEq, Addr.mk.injEq, and_true] at e;obtain ⟨rfl, rfl⟩ := e;clear hs1;have u1 : (0 : Int) < (k : Int) := by omega
   have u2 : decide ((0 : Int) < (k : Int)) = true := decide_eq_true u1;have u3 : (0 : Int) ≤ (k : Int) - 1 := by omega
   have u4 : (k : Int) - 1 < (n : Int) := by omega
   have u5 : ((k : Int) - 1).toNat = k - 1 := by omega
   by_cases hy : y.1 < s.1
   ·have u6 : decide (s.1 ≤ y.1) = false := decide_eq_false (by omega);go_wp2_with fail
    go_quiet (first | (go_at_call 37; exact Calls.quiet_of_same (bF _ _ _ _)) | (go_at_call 39; refine Calls.quiet_of (jT _ s.2 _ _ _ _ rfl q2 ?_); exact q3.ext (below_drewN (Below.refl _ _) _)))
    go_wp2;go_roundw;case rel =>
     refine ⟨k + 1, by omega, by go_num, fun j hj => ?_, fun j t hj ht => ?_, drewN_drewN hm.out _⟩
     ·by_cases he : j = k
      ·rw [he]; exact uJ (nC hs.out) (nC hp.out) g1 hy
      exact hall.out.1 j (by omega)
     by_cases he : j = k
     ·subst he; rw [hs.out] at ht; simp only [Option.some.injEq] at ht; rw [← ht]; exact g2
     exact hall.out.2 j t (by omega) ht
    case measure => simp [intOf]; omega
   have u6 : decide (s.1 ≤ y.1) = true := decide_eq_true (by omega);go_wp2_with fail
   go_quiet (first | (go_at_call 37; exact Calls.quiet_of_same (bF _ _ _ _)) | (go_at_call 39; refine Calls.quiet_of (jT _ s.2 _ _ _ _ rfl q2 ?_); exact q3.ext (below_drewN (Below.refl _ _) _)))
   go_wp2;go_ret;exact ⟨by rw [uF hs.out (wH hk0 (nC hs.out) (nC hp.out) (by omega))]; rfl, drewN_drewN hm.out _⟩
  have u2 : decide ((0 : Int) < (k : Int)) = false := decide_eq_false (by omega);go_wp2_with fail
  go_quiet (first | (go_at_call 37; exact Calls.quiet_of_same (bF _ _ _ _)) | (go_at_call 39; refine Calls.quiet_of (jT _ s.2 _ _ _ _ rfl q2 ?_); exact q3.ext (below_drewN (Below.refl _ _) _)))
  go_wp2;go_roundw;case rel =>
   have hk9 : k = 0 := by omega
   have h9 := hs.out;rw [hk9] at h9;refine ⟨k + 1, by omega, by go_num, fun j hj => ?_, fun j t hj ht => ?_, drewN_drewN hm.out _⟩
   ·have hj9 : j = 0 := by omega
    rw [hj9]; exact pY (nC h9) g1
   have hj9 : j = 0 := by omega
   rw [hj9, h9] at ht; simp only [Option.some.injEq] at ht; rw [← ht]; exact g2
  case measure => simp [intOf]; omega
 go_wp2;go_ret;exact ⟨by rw [Jk HL.out (fun i hi => hall.out.1 i (by omega)) (fun i s hi hs => hall.out.2 i s (by omega) hs)]; rfl, hm.out⟩
theorem tC (s : Ak) (v : Value) (w : World) :
  Calls Try.prog 78 #[.agg #[.int .i64 s.1, v]] w fun e w' => e = .returned (.int .i64 s.1) ∧ w' = w.alloc (.cells #[.int .i64 s.1, v] 69) := by
 go_enter Try.func78, Try.ntmps78;go_wp2;go_ret;exact ⟨rfl, rfl⟩
theorem IA (a : Option Addr) (l : List Ak) (n cap : Nat) (w : World) (hn : l.length = n) (hc : n ≤ maxLen) (h : nP w a l) :
  Calls Try.prog 77 #[.slice a n cap, .func (.func 78) #[] #[], .int .i64 60] w fun e w' => e = .returned (.bool (dh 60 (keysOf l))) ∧ Below w.heap.size w w' := by
 unfold maxLen at hc;have HL : Hid (l.length = n) := hn;clear hn;go_enter Try.func77, Try.ntmps77;go_wp2;go_loopw [7, 12] (fun v i wr => ∃ (k : Nat) (L : Int), k ≤ n ∧ i = .int .i64 k ∧ v = .int .i64 L ∧ 0 ≤ L ∧ L ≤ 60 ∧ (k = 0 → L = 0) ∧ (0 < k → (keysOf l)[k - 1]? = some L) ∧ (∀ j, j < k → dX 60 (keysOf l) j = true) ∧ Below w.heap.size w wr) (fun _ i _ => n - (intOf i).toNat);case atStart => exact ⟨0, 0, Nat.zero_le _, rfl, rfl, by omega, by omega, fun _ => rfl, fun h => absurd h (by omega), fun j hj => absurd hj (by omega), Below.refl _ _⟩
 obtain ⟨k, L, hk, rfl, rfl, hL0, hL1, q0, q1, hall0, hbel⟩ := hrel;have HH : Hid ((k = 0 → L = 0) ∧ (0 < k → (keysOf l)[k - 1]? = some L) ∧ (∀ j, j < k → dX 60 (keysOf l) j = true)) := ⟨q0, q1, hall0⟩
 clear q0 q1 hall0;by_cases hlt : k < n
 ·obtain ⟨s, hs0⟩ : ∃ s, l[k]? = some s := ⟨_, List.getElem?_eq_getElem (by rw [HL.out]; exact hlt)⟩
  have hs : Hid (l[k]? = some s) := hs0;obtain ⟨b, off, sa, cp, rfl, hb, c0, c1, q1, q2, q3⟩ := (h.ext hbel) k s hs0;have HT : Hid (dX 60 (keysOf l) k = inB s.1 (L + 1) 60) := AB (nC hs0) HH.out.1 HH.out.2.1 hL0;clear hs0;have e1 : (0 : Int) ≤ (k : Int) := by omega
  have e2 : (k : Int) < (n : Int) := by omega
  have hkl : Hid (k < (keysOf l).length) := by unfold Hid; rw [oq, HL.out]; exact hlt
  cases g1 : inB s.1 (L + 1) 60
  ·go_wp2_with (first
    | (go_at_call 46; refine (cZ _ _ _ _).mono ?_; rintro e w' ⟨rfl, rfl⟩)
    | (go_at_call 78; refine (tC s _ _).mono ?_; rintro e w' ⟨rfl, rfl⟩))
   go_ret;exact ⟨by rw [jR hkl.out (by rw [HT.out, g1])]; rfl, ae (ae hbel _) _⟩
  have hz := bK.1 g1
  go_wp2_with (first
   | (go_at_call 46; refine (cZ _ _ _ _).mono ?_; rintro e w' ⟨rfl, rfl⟩)
   | (go_at_call 78; refine (tC s _ _).mono ?_; rintro e w' ⟨rfl, rfl⟩))
  go_roundw;case rel =>
   refine ⟨k + 1, s.1, by omega, by go_num, rfl, by omega, by omega, fun h => absurd h (by omega), fun _ => nC hs.out, fun j hj => ?_, ae (ae (ae hbel _) _) _⟩;by_cases he : j = k
   ·rw [he, HT.out, g1]
   exact HH.out.2.2 j (by omega)
  case measure => simp [intOf]; omega
 go_wp2;go_ret;exact ⟨by rw [qP (by rw [oq, HL.out]) (fun i hi => HH.out.2.2 i (by omega))]; rfl, hbel⟩
theorem mO (a : Option Addr) (l : List Ak) (n cap : Nat) (of_ : Int) (w : World) (hn : l.length = n) (hc : n ≤ maxLen) (hof : of_ ≤ 1000000) (h : nP w a l) :
  Calls Try.prog 49 #[.slice a n cap, .int .i64 of_] w fun e w' => e = .returned (.bool (dZ of_ l)) ∧ Below w.heap.size w w' := by
 have HC : Hid (n ≤ maxLen) := hc;unfold maxLen at hc;have HL : Hid (l.length = n) := hn;clear hn;go_enter Try.func49, Try.ntmps49;go_wp2;go_loopw [9] (fun i wr => ∃ (k : Nat), k ≤ n ∧ i = .int .i64 k ∧ (∀ (j : Nat) s, j < k → l[j]? = some s → dh of_ s.2 = true) ∧ Below w.heap.size w wr) (fun i _ => n - (intOf i).toNat);case atStart => exact ⟨0, Nat.zero_le _, rfl, fun j s hj => absurd hj (by omega), Below.refl _ _⟩
 obtain ⟨k, hk, rfl, hall0, hbel⟩ := hrel;have hall : Hid (∀ (j : Nat) s, j < k → l[j]? = some s → dh of_ s.2 = true) := hall0;clear hall0;by_cases hlt : k < n
 ·obtain ⟨s, hs0⟩ : ∃ s, l[k]? = some s := ⟨_, List.getElem?_eq_getElem (by rw [HL.out]; exact hlt)⟩
  have hs : Hid (l[k]? = some s) := hs0;obtain ⟨b, off, sa, cp, rfl, hb, c0, c1, q1, q2, q3⟩ := (h.ext hbel) k s hs0;clear hs0;have e1 : (0 : Int) ≤ (k : Int) := by omega
  have e2 : (k : Int) < (n : Int) := by omega
  cases g2 : dh of_ s.2
  ·go_wp2_with (go_at_call 47; refine (qy _ s.2 _ _ _ _ rfl q2 hof (by exact q3.ext (ae (Below.refl _ _) _))).mono ?_; rintro e w' ⟨rfl, rfl⟩);go_ret;exact ⟨by rw [rM hs.out g2]; rfl, ae hbel _⟩
  go_wp2_with (go_at_call 47; refine (qy _ s.2 _ _ _ _ rfl q2 hof (by exact q3.ext (ae (Below.refl _ _) _))).mono ?_; rintro e w' ⟨rfl, rfl⟩);go_roundw;case rel =>
   refine ⟨k + 1, by omega, by go_num, fun j t hj ht => ?_, ae hbel _⟩;by_cases he : j = k
   ·subst he; rw [hs.out] at ht; simp only [Option.some.injEq] at ht; rw [← ht]; exact g2
   exact hall.out j t (by omega) ht
  case measure => simp [intOf]; omega
 go_wp2_with (go_at_call 77; refine (IA a l n cap _ HL.out HC.out (h.ext hbel)).mono ?_; rintro e w' ⟨rfl, hb'⟩);go_ret;refine ⟨?_, aj hbel hb'⟩;have hfull : (l.all fun s => dh of_ s.2) = true := by
  rw [List.all_eq_true];intro s hs;obtain ⟨i, hi, rfl⟩ := List.getElem_of_mem hs;exact hall.out i _ (by have := HL.out; omega) (List.getElem?_eq_getElem hi)
 rw [show dZ of_ l = dh 60 (keysOf l) by unfold dZ; rw [hfull, Bool.and_true]];rfl
def jd (s t : ByteArray) : Bool := s.toList == t.toList
theorem mQ (s t : ByteArray) : jd s t = jd t s := by unfold jd; exact Bool.beq_comm
def iF (l : List ByteArray) (i : Nat) : Bool :=
 inB ((l.getD i ByteArray.empty).size : Int) 1 100 && (List.range i).all fun j => !jd (l.getD j ByteArray.empty) (l.getD i ByteArray.empty)
def dF (l : List ByteArray) : Bool := decide (l.length ≤ 20) && (List.range l.length).all (iF l)
theorem yx (hn : l.length = n) (hz : n ≤ 20) (h : ∀ i, i < n → iF l i = true) : dF l = true := by
 unfold dF;rw [hn, decide_eq_true hz, Bool.true_and, List.all_eq_true];intro i hi;exact h i (List.mem_range.1 hi)
theorem jD (hk : k < l.length) (h : iF l k = false) : dF l = false := by
 unfold dF;rw [show (List.range l.length).all (iF l) = false from by rw [List.all_eq_false]; exact ⟨k, List.mem_range.2 hk, by simp [h]⟩, Bool.and_false]
theorem qx (hn : l.length = n) (hz : ¬ n ≤ 20) : dF l = false := by
 unfold dF;rw [hn, decide_eq_false hz, Bool.false_and]
theorem ww (hs : l[k]? = some t) (g : inB (t.size : Int) 1 100 = true) (h : ∀ (j : Nat) u, j < k → l[j]? = some u → jd u t = false) : iF l k = true := by
 have hk : k < l.length := (List.getElem?_eq_some_iff.1 hs).1;unfold iF;rw [show l.getD k ByteArray.empty = t by simp [List.getD, hs], g, Bool.true_and, List.all_eq_true];intro j hj;have hj' := List.mem_range.1 hj;have hu : l[j]? = some (l[j]'(by omega)) := List.getElem?_eq_getElem (by omega);rw [show l.getD j ByteArray.empty = l[j]'(by omega) by simp [List.getD, hu], h j _ hj' hu];rfl
theorem qh (hs : l[k]? = some t) (g : inB (t.size : Int) 1 100 = false) : iF l k = false := by
 unfold iF;rw [show l.getD k ByteArray.empty = t by simp [List.getD, hs], g, Bool.false_and]
theorem wO {j : Nat} {u : ByteArray} (hs : l[k]? = some t) (hj : j < k) (hu : l[j]? = some u) (h : jd u t = true) : iF l k = false := by
 unfold iF;rw [show l.getD k ByteArray.empty = t by simp [List.getD, hs]]
 rw [show ((List.range k).all fun j => !jd (l.getD j ByteArray.empty) t) = false from by
  rw [List.all_eq_false]
  exact ⟨j, List.mem_range.2 hj, by rw [show l.getD j ByteArray.empty = u by simp [List.getD, hu], h]; simp⟩, Bool.and_false]
theorem zf (a : Option Addr) (l : List ByteArray) (n cap : Nat) (w : World) (hn : l.length = n) (hc : n ≤ maxLen) (h : kX w a l) :
  Calls Try.prog 38 #[.slice a n cap] w fun e w' => e = .returned (.bool (dF l)) ∧ Below w.heap.size w w' := by
 unfold maxLen at hc;have HL : Hid (l.length = n) := hn;clear hn;by_cases hz : n ≤ 20
 ·go_enter Try.func38, Try.ntmps38;go_wp2;go_loopw [3] (fun i wr => ∃ (k : Nat), k ≤ n ∧ i = .int .i64 k ∧ (∀ j, j < k → iF l j = true) ∧ Below w.heap.size w wr) (fun i _ => n - (intOf i).toNat);case atStart => exact ⟨0, Nat.zero_le _, rfl, fun j hj => absurd hj (by omega), Below.refl _ _⟩
  obtain ⟨k, hk, rfl, hall0, hbel⟩ := hrel;have hall : Hid (∀ j, j < k → iF l j = true) := hall0;clear hall0;by_cases hlt : k < n
  ·obtain ⟨t, hs0⟩ : ∃ s, l[k]? = some s := ⟨_, List.getElem?_eq_getElem (by rw [HL.out]; exact hlt)⟩
   have hs : Hid (l[k]? = some t) := hs0;have hA := h.ext hbel;obtain ⟨b, off, rfl, hb, c0, ht⟩ := hA k t hs0;unfold okS maxLen at ht;clear hs0;have e1 : (0 : Int) ≤ (k : Int) := by omega
   have e2 : (k : Int) < (n : Int) := by omega
   have hkl : Hid (k < l.length) := by unfold Hid; rw [HL.out]; exact hlt
   by_cases t1 : (t.size : Int) < 1
   ·have HG : Hid (inB (t.size : Int) 1 100 = false) := vW (by omega);have t2 : decide ((t.size : Int) < 1) = true := decide_eq_true t1;go_wp2;go_ret;exact ⟨by rw [jD hkl.out (qh hs.out HG.out)]; rfl, hbel⟩
   by_cases t3 : (100 : Int) < (t.size : Int)
   ·have HG : Hid (inB (t.size : Int) 1 100 = false) := uh (by omega);go_wp2;go_ret;exact ⟨by rw [jD hkl.out (qh hs.out HG.out)]; rfl, hbel⟩
   have HG : Hid (inB (t.size : Int) 1 100 = true) := uz (by omega) (by omega);have t2 : decide ((t.size : Int) < 1) = false := decide_eq_false t1;have t4 : decide ((100 : Int) < (t.size : Int)) = false := decide_eq_false t3;go_wp2;go_loopw [4] (fun i ws => ∃ (j : Nat), j ≤ k ∧ i = .int .i64 j ∧ (∀ (q : Nat) u, q < j → l[q]? = some u → jd u t = false) ∧ Below wr.heap.size wr ws) (fun i _ => k - (intOf i).toNat);case atStart => exact ⟨0, Nat.zero_le _, rfl, fun q u hq => absurd hq (by omega), Below.refl _ _⟩
   obtain ⟨j, hj, rfl, hin0, hbi⟩ := hrel;have hin : Hid (∀ (q : Nat) u, q < j → l[q]? = some u → jd u t = false) := hin0;clear hin0;have hI := hA.ext hbi;by_cases hjk : j < k
   ·obtain ⟨u, hu0⟩ : ∃ s, l[j]? = some s := ⟨_, List.getElem?_eq_getElem (by rw [HL.out]; omega)⟩
    have hu : Hid (l[j]? = some u) := hu0;obtain ⟨b1, off1, ea, hb1, d0, _⟩ := hI j u hu0;obtain ⟨b2, off2, eb, hb2, d1, _⟩ := hI k t hs.out;simp only [Option.some.injEq, Addr.mk.injEq, and_true] at ea eb;obtain ⟨rfl, rfl⟩ := ea;obtain ⟨rfl, rfl⟩ := eb;clear hu0 hI;have f1 : (0 : Int) ≤ (j : Int) := by omega
    have f2 : (j : Int) < (n : Int) := by omega
    cases hq : jd u t
    ·have hq' : (u.toList == t.toList) = false := hq;have HQ : Hid (jd u t = false) := hq;clear hq;go_wp2
     go_quiet (fail)
     go_wp2;go_roundw;case rel =>
      refine ⟨j + 1, by omega, by go_num, fun q v hq hv => ?_, below_drewN hbi _⟩;by_cases he : q = j
      ·subst he; rw [hu.out] at hv; simp only [Option.some.injEq] at hv; rw [← hv]; exact HQ.out
      exact hin.out q v (by omega) hv
     case measure => simp [intOf]; omega
    have hq' : (u.toList == t.toList) = true := hq;have HQ : Hid (jd u t = true) := hq;clear hq;go_wp2
    go_quiet (fail)
    go_wp2;go_ret;exact ⟨by rw [jD hkl.out (wO hs.out hjk hu.out HQ.out)]; rfl, aj hbel (below_drewN hbi _)⟩
   go_wp2;go_roundw;case rel =>
    refine ⟨k + 1, by omega, by go_num, fun q hq => ?_, aj hbel hbi⟩;by_cases he : q = k
    ·rw [he]; exact ww hs.out HG.out (fun q u hq hu => hin.out q u (by omega) hu)
    exact hall.out q (by omega)
   case measure => simp [intOf]; omega
  go_wp2;go_ret;exact ⟨by rw [yx HL.out hz (fun i hi => hall.out i (by omega))]; rfl, hbel⟩
 have HN : Hid (¬ n ≤ 20) := hz;go_enter Try.func38, Try.ntmps38;go_wp2;go_ret;exact ⟨by rw [qx HL.out HN.out]; rfl, Below.refl _ _⟩
theorem kX.take {w : World} {a : Option Addr} (h : kX w a l) (k : Nat) : kX w a (l.take k) := fun i s hs => h i s (by
 have hi := (List.getElem?_eq_some_iff.1 hs).1;simp only [List.length_take] at hi;rw [List.getElem?_take_of_lt (by omega)] at hs
 exact hs)
def hasB (l : List ByteArray) (t : ByteArray) : Bool := l.any fun u => jd t u
theorem D8 (a : Option Addr) (l : List ByteArray) (n cap : Nat) (t : ByteArray) (w : World) (hn : l.length = n) (hc : n ≤ maxLen) (h : kX w a l) :
  Calls Try.prog 84 #[.slice a n cap, .string t] w fun e w' => ∃ r : Int, e = .returned (.int .i64 r) ∧ decide (0 ≤ r) = hasB l t ∧ w' = w := by
 unfold maxLen at hc;have HL : Hid (l.length = n) := hn;clear hn;go_enter Try.func84, Try.ntmps84;go_wp2
 go_loop [8] (fun i => ∃ (k : Nat), k ≤ n ∧ i = .int .i64 k ∧ (∀ (q : Nat) u, q < k → l[q]? = some u → jd t u = false)) (fun i => n - (intOf i).toNat)
 case atStart => exact ⟨0, Nat.zero_le _, rfl, fun q u hq => absurd hq (by omega)⟩
 obtain ⟨k, hk, rfl, hin0⟩ := hrel;have hin : Hid (∀ (q : Nat) u, q < k → l[q]? = some u → jd t u = false) := hin0;clear hin0;by_cases hlt : k < n
 ·obtain ⟨u, hs0⟩ : ∃ s, l[k]? = some s := ⟨_, List.getElem?_eq_getElem (by rw [HL.out]; exact hlt)⟩
  have hs : Hid (l[k]? = some u) := hs0;obtain ⟨b, off, rfl, hb, c0, _⟩ := h k u hs0;clear hs0;have e1 : (0 : Int) ≤ (k : Int) := by omega
  have e2 : (k : Int) < (n : Int) := by omega
  cases hq : jd t u
  ·have hq' : (t.toList == u.toList) = false := hq;have HQ : Hid (jd t u = false) := hq;clear hq;go_wp2
   go_round
   case rel =>
    refine ⟨k + 1, by omega, by go_num, fun q v hq hv => ?_⟩;by_cases he : q = k
    ·subst he; rw [hs.out] at hv; simp only [Option.some.injEq] at hv; rw [← hv]; exact HQ.out
    exact hin.out q v (by omega) hv
   case measure => simp [intOf]; omega
  have hq' : (t.toList == u.toList) = true := hq;have HQ : Hid (jd t u = true) := hq;clear hq;go_wp2;go_ret;refine ⟨k, rfl, ?_, rfl⟩;rw [decide_eq_true e1];exact (List.any_eq_true.2 ⟨u, List.mem_of_getElem? hs.out, HQ.out⟩).symm
 go_wp2;go_ret;refine ⟨-1, rfl, ?_, rfl⟩;have : hasB l t = false := by
  unfold hasB;rw [List.any_eq_false];intro u hu;obtain ⟨i, hi, rfl⟩ := List.getElem_of_mem hu;rw [hin.out i _ (by have := HL.out; omega) (List.getElem?_eq_getElem hi)];simp
 rw [this];rfl
theorem uw (a : Option Addr) (l : List ByteArray) (n cap : Nat) (t : ByteArray) (w : World) (hn : l.length = n) (hc : n ≤ maxLen) (h : kX w a l) :
  Calls Try.prog 73 #[.slice a n cap, .string t] w fun e w' => e = .returned (.bool (hasB l t)) ∧ w' = w := by
 have HL : Hid (l.length = n) := hn;clear hn;go_enter Try.func73, Try.ntmps73;go_wp2_with (go_at_call 84; refine (D8 a l n cap t _ HL.out hc h).mono ?_; rintro e w' ⟨r, rfl, hr, rfl⟩);go_ret;exact ⟨rfl, rfl⟩
theorem Bz (hs : l[k]? = some t) (g : inB (t.size : Int) 1 100 = true) : iF l k = !hasB (l.take k) t := by
 have hk : k < l.length := (List.getElem?_eq_some_iff.1 hs).1;cases hh : hasB (l.take k) t
 ·refine ww hs g (fun j u hj hu => ?_);unfold hasB at hh;rw [List.any_eq_false] at hh;have := hh u (List.mem_of_getElem? (i := j) (by rw [List.getElem?_take_of_lt hj]; exact hu));rw [mQ];simpa using this
 unfold hasB at hh;obtain ⟨u, hu, hq⟩ := List.any_eq_true.1 hh;obtain ⟨j, hj, rfl⟩ := List.getElem_of_mem hu;simp only [List.length_take] at hj;rw [List.getElem_take] at hq;exact wO hs (show j < k by omega) (List.getElem?_eq_getElem (by omega)) (by rw [mQ]; exact hq)
theorem iZ (a : Option Addr) (l : List ByteArray) (n cap : Nat) (w : World) (hn : l.length = n) (hnc : n ≤ cap) (hc : n ≤ maxLen) (h : kX w a l) :
  Calls Try.prog 45 #[.slice a n cap] w fun e w' => e = .returned (.bool (dF l)) ∧ Below w.heap.size w w' := by
 unfold maxLen at hc;have HL : Hid (l.length = n) := hn;clear hn;by_cases hz : n ≤ 20
 ·go_enter Try.func45, Try.ntmps45;go_wp2;go_loopw [10] (fun i wr => ∃ (k : Nat), k ≤ n ∧ i = .int .i64 k ∧ (∀ j, j < k → iF l j = true) ∧ Below w.heap.size w wr) (fun i _ => n - (intOf i).toNat);case atStart => exact ⟨0, Nat.zero_le _, rfl, fun j hj => absurd hj (by omega), Below.refl _ _⟩
  obtain ⟨k, hk, rfl, hall0, hbel⟩ := hrel;have hall : Hid (∀ j, j < k → iF l j = true) := hall0;clear hall0;by_cases hlt : k < n
  ·obtain ⟨t, hs0⟩ : ∃ s, l[k]? = some s := ⟨_, List.getElem?_eq_getElem (by rw [HL.out]; exact hlt)⟩
   have hs : Hid (l[k]? = some t) := hs0;have hA := h.ext hbel;obtain ⟨b, off, rfl, hb, c0, ht⟩ := hA k t hs0;unfold okS maxLen at ht;clear hs0;have e1 : (0 : Int) ≤ (k : Int) := by omega
   have e2 : (k : Int) < (n : Int) := by omega
   have e3 : (k : Int) ≤ (cap : Int) := by omega
   have hkl : Hid (k < l.length) := by unfold Hid; rw [HL.out]; exact hlt
   have HTK : Hid ((l.take k).length = k) := by unfold Hid; rw [List.length_take]; have := HL.out; omega
   cases g : inB (t.size : Int) 1 100
   ·go_wp2_with (go_at_call 46; refine (cZ _ _ _ _).mono ?_; rintro e w' ⟨rfl, rfl⟩);go_ret;exact ⟨by rw [jD hkl.out (qh hs.out g)]; rfl, hbel⟩
   have HW : Hid (iF l k = !hasB (l.take k) t) := Bz hs.out g;have HKM : Hid (k ≤ maxLen) := by unfold Hid maxLen; omega
   cases hh : hasB (l.take k) t
   ·go_wp2_with (first
      | (go_at_call 46; refine (cZ _ _ _ _).mono ?_; rintro e w' ⟨rfl, rfl⟩)
      | (go_at_call 73; refine (uw _ (l.take k) k cap t _ HTK.out HKM.out (by exact kX.take hA k)).mono ?_; rintro e w' ⟨rfl, rfl⟩))
    go_roundw;case rel =>
     refine ⟨k + 1, by omega, by go_num, fun q hq => ?_, by assumption⟩;by_cases he : q = k
     ·rw [he, HW.out, hh]; rfl
     exact hall.out q (by omega)
    case measure => simp [intOf]; omega
   go_wp2_with (first
     | (go_at_call 46; refine (cZ _ _ _ _).mono ?_; rintro e w' ⟨rfl, rfl⟩)
     | (go_at_call 73; refine (uw _ (l.take k) k cap t _ HTK.out HKM.out (by exact kX.take hA k)).mono ?_; rintro e w' ⟨rfl, rfl⟩))
   go_ret;exact ⟨by rw [jD hkl.out (by rw [HW.out, hh]; rfl)]; rfl, by assumption⟩
  go_wp2;go_ret;exact ⟨by rw [yx HL.out hz (fun i hi => hall.out i (by omega))]; rfl, hbel⟩
 have HN : Hid (¬ n ≤ 20) := hz;go_enter Try.func45, Try.ntmps45;go_wp2;go_ret;exact ⟨by rw [qx HL.out HN.out]; rfl, Below.refl _ _⟩
end Go.Proofs.Ytjdceoimignnpaa
