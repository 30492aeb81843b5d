import Derived.Test.YtjdceoimignnpaaQ01
import Derived.Handy
namespace Go.Proofs.Ytjdceoimignnpaa
open Go.ChangeShapes Go.WideShapes Go.ChangeAt Go.RowKit Go.Deep Go.Joins
set_option linter.unusedVariables false
set_option linter.unusedSimpArgs false
set_option maxHeartbeats 4000000
variable {s : Ak} {t : ByteArray} {high num of_ y z : Int} {l : List Int} {k n : Nat} {w wr : World}
theorem slotInfo : ∃ i, Try.prog.info? 43 = some i ∧ i.zero = some (.agg #[.int .i64 0, .string ⟨#[]⟩]) ∧ i.size = 2 ∧ i.bytes = 24 := info_parts (by kernel_rfl)
theorem wpList_append_slots {ops : Array Oper} {rest : List Oper} {dst : Option Tmp} {s x : Operand} {τ : TypeId} {pos : String} {after : Array Edge} {a : Act} {w : World} {Q : Exit → Act → World → Prop}
  (B : Nat) (v : Value) (l1 l2 : List Sl) (n m c : Nat) (ad : Addr) (hs : a.eval s = v) (hx : a.eval x = .slice (some ad) m c) (hown : w.ownsRow B 43 2 v n (flat l1)) (hm : l2.length = m)
  (hnews : ∀ j u, (flat l2)[j]? = some u → w.cell? (ad.add j) = some u) (hN : n + m ≤ 4194304) (hB : B ≤ w.heap.size)
  (h : ∀ v' w', w'.ownsRow B 43 2 v' (n + m) (flat (l1 ++ l2)) → w.grownBy w' v.ownBlock → (v' = .slice none 0 0 ↔ v = .slice none 0 0 ∧ m = 0) → wpList Try.prog ops Q rest (a.put dst v') w') :
  wpList Try.prog ops Q ({ dst := dst, op := .call { callee := .builtin .append, args := #[s, x], argTypes := #[23, 23] }, type := τ, pos := pos, after := after, guard := none } :: rest) a w := by
 obtain ⟨i, h1, h2, h3, h4⟩ := slotInfo;refine wpList_append_own_wide w rfl s x 23 rfl B 43 i (.agg #[.int .i64 0, .string ⟨#[]⟩]) 2 24 Try.underlying23 h1 h2 h3 h4 rfl (by omega) v n (flat l1) hs hown ad m c (flat l2) hx (by rw [flat_len, hm]) hnews (flat_one l2) (by unfold maxLen; omega) (by omega) hB ?_;intro v' w' q1 q2 q3;exact h v' w' (by rw [flat_app]; exact q1) q2 q3
theorem blk_news {g : Nat} {cs : List Value} {t : TypeId} (h : Blk w g cs.toArray t) : ∀ j u, cs[j]? = some u → w.cell? ((⟨g, 0, none⟩ : Addr).add j) = some u := fun j u hu => by
 rw [show (⟨g, 0, none⟩ : Addr).add j = ⟨g, j, none⟩ by unfold Addr.add; split <;> simp_all];rw [h.cell, List.getElem?_toArray]; exact hu
theorem ext_grown {a b c : World} {row : Option Nat} (h : Below a.heap.size a b) (k : b.grownBy c row) (hr : ∀ j, row = some j → a.heap.size ≤ j) : Below a.heap.size a c :=
 h.trans ⟨k.os, k.tape, k.output, k.size, fun i hi => k.block i (Nat.lt_of_lt_of_le hi h.size) (fun e => by have := hr i e.symm; omega)⟩
theorem own_none (w : World) (e : TypeId) (size : Nat) : (w.alloc (.cells #[] e)).ownsRow w.heap.size e size (.slice (some ⟨w.heap.size, 0, none⟩) 0 0) 0 (flat []) :=
 ⟨by simp [flat], .inr ⟨w.heap.size, 0, #[], rfl, Nat.le_refl _, heap_alloc_new w _, Nat.le_refl _, by unfold maxLen; omega, by simp, by simp [flat]⟩⟩
theorem own_form {B : Nat} {e : TypeId} {v : Value} {xs : List Value} (h : w.ownsRow B e 2 v n xs) (hv : v ≠ .slice none 0 0) : ∃ g cap, v = .slice (some ⟨g, 0, none⟩) n cap ∧ B ≤ g ∧ g < w.heap.size ∧ n ≤ cap := by
 rcases h.2 with ⟨h0, _⟩ | ⟨g, cap, cur, rfl, hb, hg, hn, _⟩
 ·exact absurd h0 hv
 exact ⟨g, cap, rfl, hb, (Array.getElem?_eq_some_iff.1 hg).1, hn⟩
def quietB (r : Rc) : Bool := !r.lead && !r.tr && decide (r.ball = 0) && decide (r.yes.length = 0) && decide (r.best.length = 0) && decide (r.acks.length = 0)
def downB (r : Rc) : Bool := !r.lead && !r.tr && decide (r.held.length = 0) && decide (r.wish.length = 0) && decide (r.heard = 0)
def leadB (r : Rc) : Bool := inB r.ball 1 r.dp && decide (r.yes.length = 0) && decide (r.best.length = 0)
def tryB (r : Rc) : Bool := inB r.ball 1 r.dp && decide (r.acks.length = 0)
def calmB (r : Rc) : Bool := decide (r.ball = 0) && decide (r.yes.length = 0) && decide (r.best.length = 0) && decide (r.acks.length = 0)
theorem sum3 {a b c : Nat} (ha : a ≤ 1048576) (hb : b ≤ 1048576) (hc : c ≤ 1048576) : (wrap64 (wrap64 ((a : Int) + (b : Int)) + (c : Int)) == 0) = (decide (a = 0) && decide (b = 0) && decide (c = 0)) := by
 have e : wrap64 (wrap64 ((a : Int) + (b : Int)) + (c : Int)) = (a : Int) + b + c := by go_arith
 rw [e];by_cases h1 : a = 0 <;> by_cases h2 : b = 0 <;> by_cases h3 : c = 0 <;> simp [h1, h2, h3] <;> omega
theorem l2Quiet_any (r : Rc) (p : RcP) (w : World) (hS : RcSmall r) :
  Calls Try.prog 42 #[.agg (rcV r p)] w fun e w' => e = .returned (.bool (quietB r)) ∧ Below w.heap.size w w' := by
 have HS : Hid ((wrap64 (wrap64 ((r.yes.length : Int) + (r.best.length : Int)) + (r.acks.length : Int)) == 0) = (decide (r.yes.length = 0) && decide (r.best.length = 0) && decide (r.acks.length = 0))) := sum3 hS.lY hS.lB hS.lA;clear hS;go_enter Try.func42, Try.ntmps42;go_wp2_with fail;all_goals go_ret
 ·exact ⟨by simp [quietB, *], ext_alloc (Below.refl _ _) _⟩
 ·exact ⟨by simp [quietB, *], ext_alloc (Below.refl _ _) _⟩
 ·refine ⟨?_, ext_alloc (Below.refl _ _) _⟩;rw [HS.out];simp [quietB, *]
 exact ⟨by simp [quietB, *], ext_alloc (Below.refl _ _) _⟩
def holdB (num of_ : Int) (m : Ms) : Bool := decide (m.1.f = num) && msgOkB m.1 of_ m.2
def heldOkB (num of_ : Int) (l : List Ms) : Bool := decide (l.length ≤ 400) && l.all (holdB num of_)
theorem held_of {l : List Ms} (hn : l.length = n) (hz : n ≤ 400) (h : ∀ (i : Nat) s, i < n → l[i]? = some s → holdB num of_ s = true) : heldOkB num of_ l = true := by
 unfold heldOkB;rw [hn, decide_eq_true hz, Bool.true_and, List.all_eq_true];intro s hs;obtain ⟨i, hi, rfl⟩ := List.getElem_of_mem hs;exact h i _ (by omega) (List.getElem?_eq_getElem hi)
theorem not_held_of {l : List Ms} {s : Ms} (hs : l[k]? = some s) (h : holdB num of_ s = false) : heldOkB num of_ l = false := by
 unfold heldOkB;rw [show l.all (holdB num of_) = false from by rw [List.all_eq_false]; exact ⟨s, List.mem_of_getElem? hs, by simp [h]⟩, Bool.and_false]
theorem not_held_len {l : List Ms} (hn : l.length = n) (hz : ¬ n ≤ 400) : heldOkB num of_ l = false := by
 unfold heldOkB;rw [hn, decide_eq_false hz, Bool.false_and]
def numAtB (high : Int) (l : List Int) (i : Nat) : Bool := inB (l.getD i 0) 1 high && (decide (i = 0) || decide (l.getD (i - 1) 0 < l.getD i 0))
def numsOkB (high : Int) (l : List Int) : Bool := (List.range l.length).all (numAtB high l)
theorem nums_of (hn : l.length = n) (h : ∀ i, i < n → numAtB high l i = true) : numsOkB high l = true := by
 unfold numsOkB;rw [List.all_eq_true];intro i hi;exact h i (by rw [List.mem_range] at hi; omega)
theorem not_nums_of (hk : k < l.length) (h : numAtB high l k = false) : numsOkB high l = false := by
 unfold numsOkB;rw [List.all_eq_false];exact ⟨k, List.mem_range.2 hk, by simp [h]⟩
theorem numAt_first (hs : l[0]? = some z) (g : inB z 1 high = true) : numAtB high l 0 = true := by
 simp [numAtB, List.getD, hs, g]
theorem numAt_yes (hs : l[k]? = some z) (hp : l[k - 1]? = some y) (g : inB z 1 high = true) (h : y < z) : numAtB high l k = true := by
 simp [numAtB, List.getD, hs, hp, g, h]
theorem numAt_in (hs : l[k]? = some z) (g : inB z 1 high = false) : numAtB high l k = false := by
 simp [numAtB, List.getD, hs, g]
theorem numAt_no (hk : 0 < k) (hs : l[k]? = some z) (hp : l[k - 1]? = some y) (h : ¬ y < z) : numAtB high l k = false := by
 have : ¬ k = 0 := by omega
 simp [numAtB, List.getD, hs, hp, h, this]
theorem drewN_drewN (h : ∃ m, wr = w.drewN m) (n : Nat) : ∃ m, wr.drewN n = w.drewN m := by
 obtain ⟨m, rfl⟩ := h;exact ⟨m + n, by simp⟩
theorem below_of_drewN (h : ∃ m, wr = w.drewN m) : Below w.heap.size w wr := by
 obtain ⟨m, rfl⟩ := h;exact below_drewN (Below.refl _ _) m
theorem specNumbers (a : Option Addr) (l : List Int) (n cap : Nat) (of_ : Int) (w : World) (hn : l.length = n) (hc : n ≤ maxLen) (h : IntsAt w a l) :
  Calls Try.prog 39 #[.slice a n cap, .int .i64 of_] w fun e w' => e = .returned (.bool (numsOkB of_ l)) ∧ ∃ m, w' = w.drewN m := by
 unfold maxLen at hc;have HL : Hid (l.length = n) := hn;clear hn;go_enter Try.func39, Try.ntmps39;go_wp2;go_loopw [5] (fun i wr => ∃ (k : Nat), k ≤ n ∧ i = .int .i64 k ∧ (∀ j, j < k → numAtB of_ l j = true) ∧ ∃ m, wr = w.drewN m) (fun i _ => n - (intOf i).toNat);case atStart => exact ⟨0, Nat.zero_le _, rfl, fun j hj => absurd hj (by omega), 0, rfl⟩
 obtain ⟨k, hk, rfl, hall0, hm0⟩ := hrel;have hall : Hid (∀ j, j < k → numAtB of_ l j = true) := hall0;have hm : Hid (∃ m, wr = w.drewN m) := hm0;have hA := h.ext (below_of_drewN hm0);clear hall0 hm0 h;by_cases hlt : k < n
 ·obtain ⟨z, hs0⟩ : ∃ s, l[k]? = some s := ⟨_, List.getElem?_eq_getElem (by rw [HL.out]; exact hlt)⟩
  have hs : Hid (l[k]? = some z) := hs0;obtain ⟨b, off, rfl, hb, c0, _⟩ := hA k z hs0;clear hs0;have e1 : (0 : Int) ≤ (k : Int) := by omega
  have e2 : (k : Int) < (n : Int) := by omega
  have hkl : Hid (k < l.length) := by unfold Hid; rw [HL.out]; exact hlt
  cases g1 : inB z 1 of_
  ·go_wp2_with fail
   go_quiet ((go_at_call 37; exact Calls.quiet_of_same (l1In_any _ _ _ _)))
   go_wp2;go_ret;exact ⟨by rw [not_nums_of hkl.out (numAt_in hs.out g1)]; rfl, drewN_drewN hm.out _⟩
  by_cases hk0 : 0 < k
  ·obtain ⟨y, hs1⟩ : ∃ s, l[k-1]? = some s := ⟨_, List.getElem?_eq_getElem (by rw [HL.out]; omega)⟩
   have hp : Hid (l[k-1]? = some y) := hs1;obtain ⟨b', off', e, hb', c1, _⟩ := hA (k-1) y hs1;simp only [Option.some.injEq, Addr.mk.injEq, and_true] at e;obtain ⟨rfl, rfl⟩ := e;clear hs1;have u1 : (0 : Int) < (k : Int) := by omega
   have u2 : decide ((0 : Int) < (k : Int)) = true := decide_eq_true u1;have u3 : (0 : Int) ≤ (k : Int) - 1 := by omega
   have u4 : (k : Int) - 1 < (n : Int) := by omega
   have u5 : ((k : Int) - 1).toNat = k - 1 := by omega
   by_cases hy : y < z
   ·have u6 : decide (z ≤ y) = false := decide_eq_false (by omega);go_wp2_with fail
    go_quiet ((go_at_call 37; exact Calls.quiet_of_same (l1In_any _ _ _ _)))
    go_wp2;go_roundw;case rel =>
     refine ⟨k + 1, by omega, by go_num, fun j hj => ?_, drewN_drewN hm.out _⟩;by_cases he : j = k
     ·rw [he]; exact numAt_yes hs.out hp.out g1 hy
     exact hall.out j (by omega)
    case measure => simp [intOf]; omega
   have u6 : decide (z ≤ y) = true := decide_eq_true (by omega);go_wp2_with fail
   go_quiet ((go_at_call 37; exact Calls.quiet_of_same (l1In_any _ _ _ _)))
   go_wp2;go_ret;exact ⟨by rw [not_nums_of hkl.out (numAt_no hk0 hs.out hp.out (by omega))]; rfl, drewN_drewN hm.out _⟩
  have u2 : decide ((0 : Int) < (k : Int)) = false := decide_eq_false (by omega);go_wp2_with fail
  go_quiet ((go_at_call 37; exact Calls.quiet_of_same (l1In_any _ _ _ _)))
  go_wp2;go_roundw;case rel =>
   refine ⟨k + 1, by omega, by go_num, fun j hj => ?_, drewN_drewN hm.out _⟩;have hk9 : k = 0 := by omega
   have hj9 : j = 0 := by omega
   have := hs.out;rw [hk9] at this;rw [hj9]; exact numAt_first this g1
  case measure => simp [intOf]; omega
 go_wp2;go_ret;exact ⟨by rw [nums_of HL.out (fun i hi => hall.out i (by omega))]; rfl, hm.out⟩
def keysOf (l : List Ak) : List Int := l.map fun s => s.1
theorem keys_at {l : List Ak} (h : l[k]? = some s) : (keysOf l)[k]? = some s.1 := by simp [keysOf, h]
theorem keys_len (l : List Ak) : (keysOf l).length = l.length := by simp [keysOf]
def acksOkB (of_ : Int) (l : List Ak) : Bool := numsOkB 60 (keysOf l) && l.all fun s => numsOkB of_ s.2
theorem acks_of {l : List Ak} (hn : l.length = n) (h1 : ∀ i, i < n → numAtB 60 (keysOf l) i = true) (h2 : ∀ (i : Nat) s, i < n → l[i]? = some s → numsOkB of_ s.2 = true) : acksOkB of_ l = true := by
 unfold acksOkB;rw [nums_of (by rw [keys_len, hn]) h1, Bool.true_and, List.all_eq_true];intro s hs;obtain ⟨i, hi, rfl⟩ := List.getElem_of_mem hs;exact h2 i _ (by omega) (List.getElem?_eq_getElem hi)
theorem not_acks_key {l : List Ak} (hs : l[k]? = some s) (h : numAtB 60 (keysOf l) k = false) : acksOkB of_ l = false := by
 unfold acksOkB;rw [not_nums_of (by rw [keys_len]; exact (List.getElem?_eq_some_iff.1 hs).1) h, Bool.false_and]
theorem not_acks_from {l : List Ak} (hs : l[k]? = some s) (h : numsOkB of_ s.2 = false) : acksOkB of_ l = false := by
 unfold acksOkB;rw [show (l.all fun s => numsOkB of_ s.2) = false from by rw [List.all_eq_false]; exact ⟨s, List.mem_of_getElem? hs, by simp [h]⟩, Bool.and_false]
theorem specAcksOk (a : Option Addr) (l : List Ak) (n cap : Nat) (of_ : Int) (w : World) (hn : l.length = n) (hc : n ≤ maxLen) (h : AcksAt w a l) :
  Calls Try.prog 41 #[.slice a n cap, .int .i64 of_] w fun e w' => e = .returned (.bool (acksOkB of_ l)) ∧ ∃ m, w' = w.drewN m := by
 unfold maxLen at hc;have HL : Hid (l.length = n) := hn;clear hn;go_enter Try.func41, Try.ntmps41;go_wp2;go_loopw [5] (fun i wr => ∃ (k : Nat), k ≤ n ∧ i = .int .i64 k ∧ (∀ j, j < k → numAtB 60 (keysOf l) j = true) ∧ (∀ (j : Nat) s, j < k → l[j]? = some s → numsOkB of_ s.2 = true) ∧ ∃ m, wr = w.drewN m) (fun i _ => n - (intOf i).toNat);case atStart => exact ⟨0, Nat.zero_le _, rfl, fun j hj => absurd hj (by omega), fun j s hj => absurd hj (by omega), 0, rfl⟩
 obtain ⟨k, hk, rfl, hall0, hall1, hm0⟩ := hrel;have hall : Hid ((∀ j, j < k → numAtB 60 (keysOf l) j = true) ∧ (∀ (j : Nat) s, j < k → l[j]? = some s → numsOkB of_ s.2 = true)) := ⟨hall0, hall1⟩
 have hm : Hid (∃ m, wr = w.drewN m) := hm0;have hA := h.ext (below_of_drewN hm0);clear hall0 hall1 hm0 h;by_cases hlt : k < n
 ·obtain ⟨s, hs0⟩ : ∃ s, l[k]? = some s := ⟨_, List.getElem?_eq_getElem (by rw [HL.out]; exact hlt)⟩
  have hs : Hid (l[k]? = some s) := hs0;obtain ⟨b, off, sa, cp, rfl, hb, c0, c1, q1, q2, q3⟩ := hA k s hs0;clear hs0;have e1 : (0 : Int) ≤ (k : Int) := by omega
  have e2 : (k : Int) < (n : Int) := by omega
  cases g1 : inB s.1 1 60
  ·go_wp2_with fail
   go_quiet (first | (go_at_call 37; exact Calls.quiet_of_same (l1In_any _ _ _ _)) | (go_at_call 39; refine Calls.quiet_of (specNumbers _ s.2 _ _ _ _ rfl q2 ?_); exact q3.ext (below_drewN (Below.refl _ _) _)))
   go_wp2;go_ret;exact ⟨by rw [not_acks_key hs.out (numAt_in (keys_at hs.out) g1)]; rfl, drewN_drewN hm.out _⟩
  cases g2 : numsOkB of_ s.2
  ·go_wp2_with fail
   go_quiet (first | (go_at_call 37; exact Calls.quiet_of_same (l1In_any _ _ _ _)) | (go_at_call 39; refine Calls.quiet_of (specNumbers _ s.2 _ _ _ _ rfl q2 ?_); exact q3.ext (below_drewN (Below.refl _ _) _)))
   go_wp2;go_ret;exact ⟨by rw [not_acks_from hs.out g2]; rfl, drewN_drewN hm.out _⟩
  by_cases hk0 : 0 < k
  ·obtain ⟨y, hs1⟩ : ∃ s, l[k-1]? = some s := ⟨_, List.getElem?_eq_getElem (by rw [HL.out]; omega)⟩
   have hp : Hid (l[k-1]? = some y) := hs1;obtain ⟨b', off', sa', cp', e, hb', d0, d1, _⟩ := hA (k-1) y hs1;simp only [Option.some.injEq, Addr.mk.injEq, and_true] at e;obtain ⟨rfl, rfl⟩ := e;clear hs1;have u1 : (0 : Int) < (k : Int) := by omega
   have u2 : decide ((0 : Int) < (k : Int)) = true := decide_eq_true u1;have u3 : (0 : Int) ≤ (k : Int) - 1 := by omega
   have u4 : (k : Int) - 1 < (n : Int) := by omega
   have u5 : ((k : Int) - 1).toNat = k - 1 := by omega
   by_cases hy : y.1 < s.1
   ·have u6 : decide (s.1 ≤ y.1) = false := decide_eq_false (by omega);go_wp2_with fail
    go_quiet (first | (go_at_call 37; exact Calls.quiet_of_same (l1In_any _ _ _ _)) | (go_at_call 39; refine Calls.quiet_of (specNumbers _ s.2 _ _ _ _ rfl q2 ?_); exact q3.ext (below_drewN (Below.refl _ _) _)))
    go_wp2;go_roundw;case rel =>
     refine ⟨k + 1, by omega, by go_num, fun j hj => ?_, fun j t hj ht => ?_, drewN_drewN hm.out _⟩
     ·by_cases he : j = k
      ·rw [he]; exact numAt_yes (keys_at hs.out) (keys_at hp.out) g1 hy
      exact hall.out.1 j (by omega)
     by_cases he : j = k
     ·subst he; rw [hs.out] at ht; simp only [Option.some.injEq] at ht; rw [← ht]; exact g2
     exact hall.out.2 j t (by omega) ht
    case measure => simp [intOf]; omega
   have u6 : decide (s.1 ≤ y.1) = true := decide_eq_true (by omega);go_wp2_with fail
   go_quiet (first | (go_at_call 37; exact Calls.quiet_of_same (l1In_any _ _ _ _)) | (go_at_call 39; refine Calls.quiet_of (specNumbers _ s.2 _ _ _ _ rfl q2 ?_); exact q3.ext (below_drewN (Below.refl _ _) _)))
   go_wp2;go_ret;exact ⟨by rw [not_acks_key hs.out (numAt_no hk0 (keys_at hs.out) (keys_at hp.out) (by omega))]; rfl, drewN_drewN hm.out _⟩
  have u2 : decide ((0 : Int) < (k : Int)) = false := decide_eq_false (by omega);go_wp2_with fail
  go_quiet (first | (go_at_call 37; exact Calls.quiet_of_same (l1In_any _ _ _ _)) | (go_at_call 39; refine Calls.quiet_of (specNumbers _ s.2 _ _ _ _ rfl q2 ?_); exact q3.ext (below_drewN (Below.refl _ _) _)))
  go_wp2;go_roundw;case rel =>
   have hk9 : k = 0 := by omega
   have h9 := hs.out;rw [hk9] at h9;refine ⟨k + 1, by omega, by go_num, fun j hj => ?_, fun j t hj ht => ?_, drewN_drewN hm.out _⟩
   ·have hj9 : j = 0 := by omega
    rw [hj9]; exact numAt_first (keys_at h9) g1
   have hj9 : j = 0 := by omega
   rw [hj9, h9] at ht; simp only [Option.some.injEq] at ht; rw [← ht]; exact g2
  case measure => simp [intOf]; omega
 go_wp2;go_ret;exact ⟨by rw [acks_of HL.out (fun i hi => hall.out.1 i (by omega)) (fun i s hi hs => hall.out.2 i s (by omega) hs)]; rfl, hm.out⟩
def sameB (s t : ByteArray) : Bool := s.toList == t.toList
theorem sameB_comm (s t : ByteArray) : sameB s t = sameB t s := by unfold sameB; exact Bool.beq_comm
def wishAtB (l : List ByteArray) (i : Nat) : Bool :=
 inB ((l.getD i ByteArray.empty).size : Int) 1 100 && (List.range i).all fun j => !sameB (l.getD j ByteArray.empty) (l.getD i ByteArray.empty)
def wishesOkB (l : List ByteArray) : Bool := decide (l.length ≤ 20) && (List.range l.length).all (wishAtB l)
theorem wishes_of {l : List ByteArray} (hn : l.length = n) (hz : n ≤ 20) (h : ∀ i, i < n → wishAtB l i = true) : wishesOkB l = true := by
 unfold wishesOkB;rw [hn, decide_eq_true hz, Bool.true_and, List.all_eq_true];intro i hi;exact h i (List.mem_range.1 hi)
theorem not_wishes_of {l : List ByteArray} (hk : k < l.length) (h : wishAtB l k = false) : wishesOkB l = false := by
 unfold wishesOkB;rw [show (List.range l.length).all (wishAtB l) = false from by rw [List.all_eq_false]; exact ⟨k, List.mem_range.2 hk, by simp [h]⟩, Bool.and_false]
theorem not_wishes_len {l : List ByteArray} (hn : l.length = n) (hz : ¬ n ≤ 20) : wishesOkB l = false := by
 unfold wishesOkB;rw [hn, decide_eq_false hz, Bool.false_and]
theorem wishAt_yes {l : List ByteArray} (hs : l[k]? = some t) (g : inB (t.size : Int) 1 100 = true) (h : ∀ (j : Nat) u, j < k → l[j]? = some u → sameB u t = false) : wishAtB l k = true := by
 have hk : k < l.length := (List.getElem?_eq_some_iff.1 hs).1;unfold wishAtB;rw [show l.getD k ByteArray.empty = t by simp [List.getD, hs], g, Bool.true_and, List.all_eq_true];intro j hj;have hj' := List.mem_range.1 hj;have hu : l[j]? = some (l[j]'(by omega)) := List.getElem?_eq_getElem (by omega);rw [show l.getD j ByteArray.empty = l[j]'(by omega) by simp [List.getD, hu], h j _ hj' hu];rfl
theorem wishAt_size {l : List ByteArray} (hs : l[k]? = some t) (g : inB (t.size : Int) 1 100 = false) : wishAtB l k = false := by
 unfold wishAtB;rw [show l.getD k ByteArray.empty = t by simp [List.getD, hs], g, Bool.false_and]
theorem wishAt_dup {l : List ByteArray} {j : Nat} {u : ByteArray} (hs : l[k]? = some t) (hj : j < k) (hu : l[j]? = some u) (h : sameB u t = true) : wishAtB l k = false := by
 unfold wishAtB;rw [show l.getD k ByteArray.empty = t by simp [List.getD, hs]]
 rw [show ((List.range k).all fun j => !sameB (l.getD j ByteArray.empty) t) = false from by
  rw [List.all_eq_false]
  exact ⟨j, List.mem_range.2 hj, by rw [show l.getD j ByteArray.empty = u by simp [List.getD, hu], h]; simp⟩, Bool.and_false]
theorem specWishesOk (a : Option Addr) (l : List ByteArray) (n cap : Nat) (w : World) (hn : l.length = n) (hc : n ≤ maxLen) (h : StrsAt w a l) :
  Calls Try.prog 38 #[.slice a n cap] w fun e w' => e = .returned (.bool (wishesOkB l)) ∧ Below w.heap.size w w' := by
 unfold maxLen at hc;have HL : Hid (l.length = n) := hn;clear hn;by_cases hz : n ≤ 20
 ·go_enter Try.func38, Try.ntmps38;go_wp2;go_loopw [3] (fun i wr => ∃ (k : Nat), k ≤ n ∧ i = .int .i64 k ∧ (∀ j, j < k → wishAtB l j = true) ∧ Below w.heap.size w wr) (fun i _ => n - (intOf i).toNat);case atStart => exact ⟨0, Nat.zero_le _, rfl, fun j hj => absurd hj (by omega), Below.refl _ _⟩
  obtain ⟨k, hk, rfl, hall0, hbel⟩ := hrel;have hall : Hid (∀ j, j < k → wishAtB l j = true) := hall0;clear hall0;by_cases hlt : k < n
  ·obtain ⟨t, hs0⟩ : ∃ s, l[k]? = some s := ⟨_, List.getElem?_eq_getElem (by rw [HL.out]; exact hlt)⟩
   have hs : Hid (l[k]? = some t) := hs0;have hA := h.ext hbel;obtain ⟨b, off, rfl, hb, c0, ht⟩ := hA k t hs0;unfold okS maxLen at ht;clear hs0;have e1 : (0 : Int) ≤ (k : Int) := by omega
   have e2 : (k : Int) < (n : Int) := by omega
   have hkl : Hid (k < l.length) := by unfold Hid; rw [HL.out]; exact hlt
   by_cases t1 : (t.size : Int) < 1
   ·have HG : Hid (inB (t.size : Int) 1 100 = false) := inB_low (by omega);have t2 : decide ((t.size : Int) < 1) = true := decide_eq_true t1;go_wp2;go_ret;exact ⟨by rw [not_wishes_of hkl.out (wishAt_size hs.out HG.out)]; rfl, hbel⟩
   by_cases t3 : (100 : Int) < (t.size : Int)
   ·have HG : Hid (inB (t.size : Int) 1 100 = false) := inB_high (by omega);go_wp2;go_ret;exact ⟨by rw [not_wishes_of hkl.out (wishAt_size hs.out HG.out)]; rfl, hbel⟩
   have HG : Hid (inB (t.size : Int) 1 100 = true) := inB_yes (by omega) (by omega);have t2 : decide ((t.size : Int) < 1) = false := decide_eq_false t1;have t4 : decide ((100 : Int) < (t.size : Int)) = false := decide_eq_false t3;go_wp2;go_loopw [4] (fun i ws => ∃ (j : Nat), j ≤ k ∧ i = .int .i64 j ∧ (∀ (q : Nat) u, q < j → l[q]? = some u → sameB u t = false) ∧ Below wr.heap.size wr ws) (fun i _ => k - (intOf i).toNat);case atStart => exact ⟨0, Nat.zero_le _, rfl, fun q u hq => absurd hq (by omega), Below.refl _ _⟩
   obtain ⟨j, hj, rfl, hin0, hbi⟩ := hrel;have hin : Hid (∀ (q : Nat) u, q < j → l[q]? = some u → sameB u t = false) := hin0;clear hin0;have hI := hA.ext hbi;by_cases hjk : j < k
   ·obtain ⟨u, hu0⟩ : ∃ s, l[j]? = some s := ⟨_, List.getElem?_eq_getElem (by rw [HL.out]; omega)⟩
    have hu : Hid (l[j]? = some u) := hu0;obtain ⟨b1, off1, ea, hb1, d0, _⟩ := hI j u hu0;obtain ⟨b2, off2, eb, hb2, d1, _⟩ := hI k t hs.out;simp only [Option.some.injEq, Addr.mk.injEq, and_true] at ea eb;obtain ⟨rfl, rfl⟩ := ea;obtain ⟨rfl, rfl⟩ := eb;clear hu0 hI;have f1 : (0 : Int) ≤ (j : Int) := by omega
    have f2 : (j : Int) < (n : Int) := by omega
    cases hq : sameB u t
    ·have hq' : (u.toList == t.toList) = false := hq;have HQ : Hid (sameB u t = false) := hq;clear hq;go_wp2
     go_quiet (fail)
     go_wp2;go_roundw;case rel =>
      refine ⟨j + 1, by omega, by go_num, fun q v hq hv => ?_, below_drewN hbi _⟩;by_cases he : q = j
      ·subst he; rw [hu.out] at hv; simp only [Option.some.injEq] at hv; rw [← hv]; exact HQ.out
      exact hin.out q v (by omega) hv
     case measure => simp [intOf]; omega
    have hq' : (u.toList == t.toList) = true := hq;have HQ : Hid (sameB u t = true) := hq;clear hq;go_wp2
    go_quiet (fail)
    go_wp2;go_ret;exact ⟨by rw [not_wishes_of hkl.out (wishAt_dup hs.out hjk hu.out HQ.out)]; rfl, ext_trans hbel (below_drewN hbi _)⟩
   go_wp2;go_roundw;case rel =>
    refine ⟨k + 1, by omega, by go_num, fun q hq => ?_, ext_trans hbel hbi⟩;by_cases he : q = k
    ·rw [he]; exact wishAt_yes hs.out HG.out (fun q u hq hu => hin.out q u (by omega) hu)
    exact hall.out q (by omega)
   case measure => simp [intOf]; omega
  go_wp2;go_ret;exact ⟨by rw [wishes_of HL.out hz (fun i hi => hall.out i (by omega))]; rfl, hbel⟩
 have HN : Hid (¬ n ≤ 20) := hz;go_enter Try.func38, Try.ntmps38;go_wp2;go_ret;exact ⟨by rw [not_wishes_len HL.out HN.out]; rfl, Below.refl _ _⟩
def hasB (l : List ByteArray) (t : ByteArray) : Bool := l.any fun u => sameB t u
end Go.Proofs.Ytjdceoimignnpaa
