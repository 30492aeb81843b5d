import Derived.Test.YtjdceoimignnpaaF01
import Derived.Handy
namespace Go.Proofs.Ytjdceoimignnpaa
open Go.ChangeShapes Go.WideShapes Go.ChangeAt Go.RowKit Go.Deep Go.Joins
set_option linter.unusedVariables false
set_option linter.unusedSimpArgs false
set_option maxHeartbeats 4000000
variable {high num of_ y z : Int} {l : List Int} {k n : Nat} {w wr : World}
theorem wI : ∃ i, Try.prog.info? 43 = some i ∧ i.zero = some (.agg #[.int .i64 0, .string ⟨#[]⟩]) ∧ i.size = 2 ∧ i.bytes = 24 := info_parts (by kernel_rfl)
theorem lK {ops : Array Oper} {rest : List Oper} {dst : Option Tmp} {s x : Operand} {τ : TypeId} {pos : String} {after : Array Edge} {a : Act} {w : World} {Q : Exit → Act → World → Prop}
  (B : Nat) (v : Value) (l1 l2 : List Sl) (n m c : Nat) (ad : Addr) (hs : a.eval s = v) (hx : a.eval x = .slice (some ad) m c) (hown : w.ownsRow B 43 2 v n (flat l1)) (hm : l2.length = m)
  (hnews : ∀ j u, (flat l2)[j]? = some u → w.cell? (ad.add j) = some u) (hN : n + m ≤ 4194304) (hB : B ≤ w.heap.size)
  (h : ∀ v' w', w'.ownsRow B 43 2 v' (n + m) (flat (l1 ++ l2)) → w.grownBy w' v.ownBlock → (v' = .slice none 0 0 ↔ v = .slice none 0 0 ∧ m = 0) → wpList Try.prog ops Q rest (a.put dst v') w') :
  wpList Try.prog ops Q ({ dst := dst, op := .call { callee := .builtin .append, args := #[s, x], argTypes := #[23, 23] }, type := τ, pos := pos, after := after, guard := none } :: rest) a w := by
 obtain ⟨i, h1, h2, h3, h4⟩ := wI;refine wpList_append_own_wide w rfl s x 23 rfl B 43 i (.agg #[.int .i64 0, .string ⟨#[]⟩]) 2 24 Try.underlying23 h1 h2 h3 h4 rfl (by omega) v n (flat l1) hs hown ad m c (flat l2) hx (by rw [qm, hm]) hnews (fM l2) (by unfold maxLen; omega) (by omega) hB ?_;intro v' w' q1 q2 q3;exact h v' w' (by rw [lm]; exact q1) q2 q3
theorem dG {g : Nat} {cs : List Value} {t : TypeId} (h : aC w g cs.toArray t) : ∀ j u, cs[j]? = some u → w.cell? ((⟨g, 0, none⟩ : Addr).add j) = some u := fun j u hu => by
 rw [show (⟨g, 0, none⟩ : Addr).add j = ⟨g, j, none⟩ by unfold Addr.add; split <;> simp_all];rw [h.cell, List.getElem?_toArray]; exact hu
theorem jS {a b c : World} {row : Option Nat} (h : Below a.heap.size a b) (k : b.grownBy c row) (hr : ∀ j, row = some j → a.heap.size ≤ j) : Below a.heap.size a c :=
 h.trans ⟨k.os, k.tape, k.output, k.size, fun i hi => k.block i (Nat.lt_of_lt_of_le hi h.size) (fun e => by have := hr i e.symm; omega)⟩
theorem Il (w : World) (e : TypeId) (size : Nat) : (w.alloc (.cells #[] e)).ownsRow w.heap.size e size (.slice (some ⟨w.heap.size, 0, none⟩) 0 0) 0 (flat []) :=
 ⟨by simp [flat], .inr ⟨w.heap.size, 0, #[], rfl, Nat.le_refl _, heap_alloc_new w _, Nat.le_refl _, by unfold maxLen; omega, by simp, by simp [flat]⟩⟩
theorem Ai {B : Nat} {e : TypeId} {v : Value} {xs : List Value} (h : w.ownsRow B e 2 v n xs) (hv : v ≠ .slice none 0 0) : ∃ g cap, v = .slice (some ⟨g, 0, none⟩) n cap ∧ B ≤ g ∧ g < w.heap.size ∧ n ≤ cap := by
 rcases h.2 with ⟨h0, _⟩ | ⟨g, cap, cur, rfl, hb, hg, hn, _⟩
 ·exact absurd h0 hv
 exact ⟨g, cap, rfl, hb, (Array.getElem?_eq_some_iff.1 hg).1, hn⟩
def kQ (r : Rc) : Bool := !r.lead && !r.tr && decide (r.ball = 0) && decide (r.yes.length = 0) && decide (r.best.length = 0) && decide (r.acks.length = 0)
def lJ (r : Rc) : Bool := !r.lead && !r.tr && decide (r.held.length = 0) && decide (r.wish.length = 0) && decide (r.heard = 0)
def uB (r : Rc) : Bool := inB r.ball 1 r.dp && decide (r.yes.length = 0) && decide (r.best.length = 0)
def zD (r : Rc) : Bool := inB r.ball 1 r.dp && decide (r.acks.length = 0)
def rH (r : Rc) : Bool := decide (r.ball = 0) && decide (r.yes.length = 0) && decide (r.best.length = 0) && decide (r.acks.length = 0)
theorem IK (x : Int) : (x == 0) = decide (x = 0) := rfl
def vJ (r : Rc) : Value := if r.lead then .iface 108 (.agg #[]) else if r.tr then .iface 109 (.agg #[]) else .iface 110 (.agg #[])
theorem sum3 {a b c : Nat} (ha : a ≤ 1048576) (hb : b ≤ 1048576) (hc : c ≤ 1048576) : (wrap64 (wrap64 ((a : Int) + (b : Int)) + (c : Int)) == 0) = (decide (a = 0) && decide (b = 0) && decide (c = 0)) := by
 have e : wrap64 (wrap64 ((a : Int) + (b : Int)) + (c : Int)) = (a : Int) + b + c := by go_arith
 rw [e];by_cases h1 : a = 0 <;> by_cases h2 : b = 0 <;> by_cases h3 : c = 0 <;> simp [h1, h2, h3] <;> omega
theorem nJ (r : Rc) (p : fU) (w : World) (hS : bD r) :
  Calls Try.prog 42 #[.agg (au r p)] w fun e w' => e = .returned (.bool (kQ r)) ∧ Below w.heap.size w w' := by
 have HS : Hid ((wrap64 (wrap64 ((r.yes.length : Int) + (r.best.length : Int)) + (r.acks.length : Int)) == 0) = (decide (r.yes.length = 0) && decide (r.best.length = 0) && decide (r.acks.length = 0))) := sum3 hS.lY hS.lB hS.lA;clear hS;go_enter Try.func42, Try.ntmps42;go_wp2_with fail;all_goals go_ret
 ·exact ⟨by simp [kQ, *], ae (Below.refl _ _) _⟩
 ·exact ⟨by simp [kQ, *], ae (Below.refl _ _) _⟩
 ·refine ⟨?_, ae (Below.refl _ _) _⟩;rw [HS.out];simp [kQ, *]
 exact ⟨by simp [kQ, *], ae (Below.refl _ _) _⟩
theorem sW (r : Rc) (p : fU) (w : World) :
  Calls Try.prog 51 #[.agg (au r p)] w fun e w' => e = .returned (.bool (lJ r)) ∧ Below w.heap.size w w' := by
 go_enter Try.func51, Try.ntmps51;go_wp2_with fail;all_goals go_ret
 all_goals exact ⟨by simp [lJ, IK, *], ae (Below.refl _ _) _⟩
theorem lead_any (r : Rc) (p : fU) (w : World) :
  Calls Try.prog 131 #[.agg #[], .agg (au r p)] w fun e w' => e = .returned (.bool (uB r)) ∧ Below w.heap.size w w' := by
 go_enter Try.func131, Try.ntmps131;go_wp2_with (go_at_call 46; refine (cZ _ _ _ _).mono ?_; rintro e w' ⟨rfl, rfl⟩);all_goals go_ret
 all_goals exact ⟨by simp [uB, IK, *], ae (ae (Below.refl _ _) _) _⟩
theorem try_any (r : Rc) (p : fU) (w : World) :
  Calls Try.prog 132 #[.agg #[], .agg (au r p)] w fun e w' => e = .returned (.bool (zD r)) ∧ Below w.heap.size w w' := by
 go_enter Try.func132, Try.ntmps132;go_wp2_with (go_at_call 46; refine (cZ _ _ _ _).mono ?_; rintro e w' ⟨rfl, rfl⟩);all_goals go_ret
 all_goals exact ⟨by simp [zD, IK, *], ae (ae (Below.refl _ _) _) _⟩
theorem Bg (r : Rc) (p : fU) (w : World) :
  Calls Try.prog 133 #[.agg #[], .agg (au r p)] w fun e w' => e = .returned (.bool (rH r)) ∧ Below w.heap.size w w' := by
 go_enter Try.func133, Try.ntmps133;go_wp2_with fail;all_goals go_ret
 all_goals exact ⟨by simp [rH, IK, *], ae (ae (Below.refl _ _) _) _⟩
theorem sU (r : Rc) (p : fU) (w : World) :
  Calls Try.prog 50 #[.agg (au r p)] w fun e w' => e = .returned (vJ r) ∧ Below w.heap.size w w' := by
 go_enter Try.func50, Try.ntmps50;go_wp2_with fail;all_goals go_ret
 all_goals exact ⟨by simp [vJ, *], ae (Below.refl _ _) _⟩
def holdB (num of_ : Int) (m : Ms) : Bool := decide (m.1.f = num) && bY m.1 of_ m.2
def fO (num of_ : Int) (l : List Ms) : Bool := decide (l.length ≤ 400) && l.all (holdB num of_)
theorem Dn {l : List Ms} (hn : l.length = n) (hz : n ≤ 400) (h : ∀ (i : Nat) s, i < n → l[i]? = some s → holdB num of_ s = true) : fO num of_ l = true := by
 unfold fO;rw [hn, decide_eq_true hz, Bool.true_and, List.all_eq_true];intro s hs;obtain ⟨i, hi, rfl⟩ := List.getElem_of_mem hs;exact h i _ (by omega) (List.getElem?_eq_getElem hi)
theorem nN {l : List Ms} {s : Ms} (hs : l[k]? = some s) (h : holdB num of_ s = false) : fO num of_ l = false := by
 unfold fO;rw [show l.all (holdB num of_) = false from by rw [List.all_eq_false]; exact ⟨s, List.mem_of_getElem? hs, by simp [h]⟩, Bool.and_false]
theorem tN {l : List Ms} (hn : l.length = n) (hz : ¬ n ≤ 400) : fO num of_ l = false := by
 unfold fO;rw [hn, decide_eq_false hz, Bool.false_and]
theorem jK (r : Rc) (p : fU) (w : World) (h : oL w r p) :
  Calls Try.prog 44 #[.agg (au r p)] w fun e w' => e = .returned (.bool (fO r.num r.of_ r.held)) ∧ Below w.heap.size w w' := by
 obtain ⟨aS, cS, aD, cD, aH, cH, aW, cW, aY, cY, aB, cB, aA, cA⟩ := p;have hB : Below w.heap.size w (w.alloc (.cells (au r ⟨aS, cS, aD, cD, aH, cH, aW, cW, aY, cY, aB, cB, aA, cA⟩) 31)) := ae (Below.refl _ _) _;have hM := (h.ext hB).hH;dsimp only at hM;have hc := h.lH;unfold maxLen at hc;have b0 := aC.new w (au r ⟨aS, cS, aD, cD, aH, cH, aW, cW, aY, cY, aB, cB, aA, cA⟩) 31;clear h;by_cases hz : r.held.length ≤ 400
 ·go_enter Try.func44, Try.ntmps44;go_wp2;go_loopw [12] (fun i wr => ∃ (k : Nat), k ≤ r.held.length ∧ i = .int .i64 k ∧ (∀ (j : Nat) s, j < k → r.held[j]? = some s → holdB r.num r.of_ s = true) ∧ Below (w.alloc (.cells (au r ⟨aS, cS, aD, cD, aH, cH, aW, cW, aY, cY, aB, cB, aA, cA⟩) 31)).heap.size (w.alloc (.cells (au r ⟨aS, cS, aD, cD, aH, cH, aW, cW, aY, cY, aB, cB, aA, cA⟩) 31)) wr) (fun i _ => r.held.length - (intOf i).toNat);case atStart => exact ⟨0, Nat.zero_le _, rfl, fun j s hj => absurd hj (by omega), Below.refl _ _⟩
  obtain ⟨k, hk, rfl, hall0, hbel⟩ := hrel;have hall : Hid (∀ (j : Nat) s, j < k → r.held[j]? = some s → holdB r.num r.of_ s = true) := hall0;clear hall0;by_cases hlt : k < r.held.length
  ·obtain ⟨s, hs0⟩ : ∃ s, r.held[k]? = some s := ⟨_, List.getElem?_eq_getElem hlt⟩
   have hs : Hid (r.held[k]? = some s) := hs0;obtain ⟨b, off, sa, cp, rfl, hb, c0, c1, c2, c3, c4, c5, c6, c7, q1, q2, q3⟩ := (hM.ext hbel) k s hs0;clear hs0;obtain ⟨⟨mk, mf, mt, mb, mi, mn, mx⟩, ml⟩ := s;dsimp only at c0 c1 c2 c3 c4 c5 c6 c7 q1 q2 q3;have cb := (b0.ext hbel).cell;have HBel : Hid (Below _ _ wr) := hbel;have db := fun (o : Obj) => ((b0.ext hbel).alloc o).cell
   have e1 : (0 : Int) ≤ (k : Int) := by omega
   have e2 : (k : Int) < (r.held.length : Int) := by omega
   by_cases hf : mf = r.num
   ·subst hf;cases g : bY ⟨mk, r.num, mt, mb, mi, mn, mx⟩ r.of_ ml
    ·go_wp2_with (go_at_call 25; refine (yj ⟨mk, r.num, mt, mb, mi, mn, mx⟩ _ sa ml _ cp _ rfl q2 q1 (by exact q3.ext (ae (Below.refl _ _) _))).mono ?_; rintro e w' ⟨rfl, hb'⟩);go_ret;exact ⟨by rw [nN hs.out (by simp [holdB, g])]; rfl, aj hB (aj (ae HBel.out _) hb')⟩
    go_wp2_with (go_at_call 25; refine (yj ⟨mk, r.num, mt, mb, mi, mn, mx⟩ _ sa ml _ cp _ rfl q2 q1 (by exact q3.ext (ae (Below.refl _ _) _))).mono ?_; rintro e w' ⟨rfl, hb'⟩);go_roundw;case rel =>
     refine ⟨k + 1, by omega, by go_num, fun j t hj ht => ?_, aj (ae HBel.out _) hb'⟩;by_cases he : j = k
     ·subst he; rw [hs.out] at ht; simp only [Option.some.injEq] at ht; rw [← ht]; simp [holdB, g]
     exact hall.out j t (by omega) ht
    case measure => simp [intOf]; omega
   go_wp2;go_ret;exact ⟨by rw [nN hs.out (by simp [holdB, hf])]; rfl, aj hB (ae HBel.out _)⟩
  go_wp2;go_ret;exact ⟨by rw [Dn rfl hz (fun i s hi hs => hall.out i s (by omega) hs)]; rfl, aj hB hbel⟩
 have HN : Hid (¬ r.held.length ≤ 400) := hz;go_enter Try.func44, Try.ntmps44;go_wp2;go_ret;exact ⟨by rw [tN rfl HN.out]; rfl, hB⟩
def dX (high : Int) (l : List Int) (i : Nat) : Bool := inB (l.getD i 0) 1 high && (decide (i = 0) || decide (l.getD (i - 1) 0 < l.getD i 0))
def dh (high : Int) (l : List Int) : Bool := (List.range l.length).all (dX high l)
theorem qP (hn : l.length = n) (h : ∀ i, i < n → dX high l i = true) : dh high l = true := by
 unfold dh;rw [List.all_eq_true];intro i hi;exact h i (by rw [List.mem_range] at hi; omega)
theorem jR (hk : k < l.length) (h : dX high l k = false) : dh high l = false := by
 unfold dh;rw [List.all_eq_false];exact ⟨k, List.mem_range.2 hk, by simp [h]⟩
theorem pY (hs : l[0]? = some z) (g : inB z 1 high = true) : dX high l 0 = true := by
 simp [dX, List.getD, hs, g]
theorem uJ (hs : l[k]? = some z) (hp : l[k - 1]? = some y) (g : inB z 1 high = true) (h : y < z) : dX high l k = true := by
 simp [dX, List.getD, hs, hp, g, h]
theorem wZ (hs : l[k]? = some z) (g : inB z 1 high = false) : dX high l k = false := by
 simp [dX, List.getD, hs, g]
theorem wH (hk : 0 < k) (hs : l[k]? = some z) (hp : l[k - 1]? = some y) (h : ¬ y < z) : dX high l k = false := by
 have : ¬ k = 0 := by omega
 simp [dX, List.getD, hs, hp, h, this]
theorem drewN_drewN (h : ∃ m, wr = w.drewN m) (n : Nat) : ∃ m, wr.drewN n = w.drewN m := by
 obtain ⟨m, rfl⟩ := h;exact ⟨m + n, by simp⟩
theorem iO (h : ∃ m, wr = w.drewN m) : Below w.heap.size w wr := by
 obtain ⟨m, rfl⟩ := h;exact below_drewN (Below.refl _ _) m
theorem jT (a : Option Addr) (l : List Int) (n cap : Nat) (of_ : Int) (w : World) (hn : l.length = n) (hc : n ≤ maxLen) (h : pG w a l) :
  Calls Try.prog 39 #[.slice a n cap, .int .i64 of_] w fun e w' => e = .returned (.bool (dh of_ l)) ∧ ∃ m, w' = w.drewN m := by
 unfold maxLen at hc;have HL : Hid (l.length = n) := hn;clear hn;go_enter Try.func39, Try.ntmps39;go_wp2;go_loopw [5] (fun i wr => ∃ (k : Nat), k ≤ n ∧ i = .int .i64 k ∧ (∀ j, j < k → dX of_ l j = true) ∧ ∃ m, wr = w.drewN m) (fun i _ => n - (intOf i).toNat);case atStart => exact ⟨0, Nat.zero_le _, rfl, fun j hj => absurd hj (by omega), 0, rfl⟩
 obtain ⟨k, hk, rfl, hall0, hm0⟩ := hrel;have hall : Hid (∀ j, j < k → dX of_ l j = true) := hall0;have hm : Hid (∃ m, wr = w.drewN m) := hm0;have hA := h.ext (iO hm0);clear hall0 hm0 h;by_cases hlt : k < n
 ·obtain ⟨z, hs0⟩ : ∃ s, l[k]? = some s := ⟨_, List.getElem?_eq_getElem (by rw [HL.out]; exact hlt)⟩
  have hs : Hid (l[k]? = some z) := hs0;obtain ⟨b, off, rfl, hb, c0, _⟩ := hA k z hs0;clear hs0;have e1 : (0 : Int) ≤ (k : Int) := by omega
  have e2 : (k : Int) < (n : Int) := by omega
  have hkl : Hid (k < l.length) := by unfold Hid; rw [HL.out]; exact hlt
  cases g1 : inB z 1 of_
  ·go_wp2_with fail
   go_quiet ((go_at_call 37; exact Calls.quiet_of_same (bF _ _ _ _)))
   go_wp2;go_ret;exact ⟨by rw [jR hkl.out (wZ hs.out g1)]; rfl, drewN_drewN hm.out _⟩
  by_cases hk0 : 0 < k
  ·obtain ⟨y, hs1⟩ : ∃ s, l[k-1]? = some s := ⟨_, List.getElem?_eq_getElem (by rw [HL.out]; omega)⟩
   have hp : Hid (l[k-1]? = some y) := hs1;obtain ⟨b', off', e, hb', c1, _⟩ := hA (k-1) y hs1;simp only [Option.some.injEq, Addr.mk.injEq, and_true] at e;obtain ⟨rfl, rfl⟩ := e;clear hs1;have u1 : (0 : Int) < (k : Int) := by omega
   have u2 : decide ((0 : Int) < (k : Int)) = true := decide_eq_true u1;have u3 : (0 : Int) ≤ (k : Int) - 1 := by omega
   have u4 : (k : Int) - 1 < (n : Int) := by omega
   have u5 : ((k : Int) - 1).toNat = k - 1 := by omega
   by_cases hy : y < z
   ·have u6 : decide (z ≤ y) = false := decide_eq_false (by omega);go_wp2_with fail
    go_quiet ((go_at_call 37; exact Calls.quiet_of_same (bF _ _ _ _)))
    go_wp2;go_roundw;case rel =>
     refine ⟨k + 1, by omega, by go_num, fun j hj => ?_, drewN_drewN hm.out _⟩;by_cases he : j = k
     ·rw [he]; exact uJ hs.out hp.out g1 hy
     exact hall.out j (by omega)
    case measure => simp [intOf]; omega
   have u6 : decide (z ≤ y) = true := decide_eq_true (by omega);go_wp2_with fail
   go_quiet ((go_at_call 37; exact Calls.quiet_of_same (bF _ _ _ _)))
   go_wp2;go_ret;exact ⟨by rw [jR hkl.out (wH hk0 hs.out hp.out (by omega))]; rfl, drewN_drewN hm.out _⟩
  have u2 : decide ((0 : Int) < (k : Int)) = false := decide_eq_false (by omega);go_wp2_with fail
  go_quiet ((go_at_call 37; exact Calls.quiet_of_same (bF _ _ _ _)))
  go_wp2;go_roundw;case rel =>
   refine ⟨k + 1, by omega, by go_num, fun j hj => ?_, drewN_drewN hm.out _⟩;have hk9 : k = 0 := by omega
   have hj9 : j = 0 := by omega
   have := hs.out;rw [hk9] at this;rw [hj9]; exact pY this g1
  case measure => simp [intOf]; omega
 go_wp2;go_ret;exact ⟨by rw [qP HL.out (fun i hi => hall.out i (by omega))]; rfl, hm.out⟩
theorem AB {L : Int} (hs : l[k]? = some z) (h0 : k = 0 → L = 0) (h1 : 0 < k → l[k - 1]? = some L) (hL : 0 ≤ L) : dX high l k = inB z (L + 1) high := by
 rw [Bool.eq_iff_iff, bK];by_cases hk : k = 0
 ·have := h0 hk;subst hk;simp [dX, List.getD, hs, inB];omega
 have hp := h1 (by omega);simp [dX, List.getD, hs, hp, inB, hk];omega
theorem Iz (a : Option Addr) (l : List Int) (n cap : Nat) (of_ : Int) (w : World) (hn : l.length = n) (hc : n ≤ maxLen) (hof : of_ ≤ 1000000) (h : pG w a l) :
  Calls Try.prog 74 #[.slice a n cap, .func (.func 75) #[] #[], .int .i64 of_] w fun e w' => e = .returned (.bool (dh of_ l)) ∧ w' = w := by
 unfold maxLen at hc;have HL : Hid (l.length = n) := hn;clear hn;go_enter Try.func74, Try.ntmps74;go_wp2
 go_loop [7, 12] (fun v i => ∃ (k : Nat) (L : Int), k ≤ n ∧ i = .int .i64 k ∧ v = .int .i64 L ∧ 0 ≤ L ∧ L ≤ 1000000 ∧ (k = 0 → L = 0) ∧ (0 < k → l[k - 1]? = some L) ∧ (∀ j, j < k → dX of_ l j = true)) (fun _ i => n - (intOf i).toNat)
 case atStart => exact ⟨0, 0, Nat.zero_le _, rfl, rfl, by omega, by omega, fun _ => rfl, fun h => absurd h (by omega), fun j hj => absurd hj (by omega)⟩
 obtain ⟨k, L, hk, rfl, rfl, hL0, hL1, q0, q1, hall0⟩ := hrel;have HH : Hid ((k = 0 → L = 0) ∧ (0 < k → l[k - 1]? = some L) ∧ (∀ j, j < k → dX of_ l j = true)) := ⟨q0, q1, hall0⟩
 clear q0 q1 hall0;by_cases hlt : k < n
 ·obtain ⟨z, hs0⟩ : ∃ s, l[k]? = some s := ⟨_, List.getElem?_eq_getElem (by rw [HL.out]; exact hlt)⟩
  have hs : Hid (l[k]? = some z) := hs0;obtain ⟨b, off, rfl, hb, c0, _⟩ := h k z hs0;have HT : Hid (dX of_ l k = inB z (L + 1) of_) := AB hs0 HH.out.1 HH.out.2.1 hL0;clear hs0;have e1 : (0 : Int) ≤ (k : Int) := by omega
  have e2 : (k : Int) < (n : Int) := by omega
  have hkl : Hid (k < l.length) := by unfold Hid; rw [HL.out]; exact hlt
  cases g1 : inB z (L + 1) of_
  ·go_wp2_with (first
    | (go_at_call 46; refine (cZ _ _ _ _).mono ?_; rintro e w' ⟨rfl, rfl⟩)
    | (go_at_call 75; go_in))
   go_ret;exact ⟨by rw [jR hkl.out (by rw [HT.out, g1])]; rfl, rfl⟩
  have hz := bK.1 g1
  go_wp2_with (first
   | (go_at_call 46; refine (cZ _ _ _ _).mono ?_; rintro e w' ⟨rfl, rfl⟩)
   | (go_at_call 75; go_in))
  go_round
  case rel =>
   refine ⟨k + 1, z, by omega, by go_num, rfl, by omega, by omega, fun h => absurd h (by omega), fun _ => hs.out, fun j hj => ?_⟩;by_cases he : j = k
   ·rw [he, HT.out, g1]
   exact HH.out.2.2 j (by omega)
  case measure => simp [intOf]; omega
 go_wp2;go_ret;exact ⟨by rw [qP HL.out (fun i hi => HH.out.2.2 i (by omega))]; rfl, rfl⟩
theorem qy (a : Option Addr) (l : List Int) (n cap : Nat) (of_ : Int) (w : World) (hn : l.length = n) (hc : n ≤ maxLen) (hof : of_ ≤ 1000000) (h : pG w a l) :
  Calls Try.prog 47 #[.slice a n cap, .int .i64 of_] w fun e w' => e = .returned (.bool (dh of_ l)) ∧ w' = w := by
 have HL : Hid (l.length = n) := hn;clear hn;go_enter Try.func47, Try.ntmps47;go_wp2_with (go_at_call 74; refine (Iz a l n cap of_ _ HL.out hc hof h).mono ?_; rintro e w' ⟨rfl, rfl⟩);go_ret;exact ⟨rfl, rfl⟩
end Go.Proofs.Ytjdceoimignnpaa
