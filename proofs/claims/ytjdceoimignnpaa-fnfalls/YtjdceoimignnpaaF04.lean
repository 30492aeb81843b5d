import Derived.Test.YtjdceoimignnpaaF00
import Derived.WalkSmall
namespace Go.Proofs.Ytjdceoimignnpaa
open Go.ChangeShapes Go.WideShapes Go.ChangeAt Go.RowKit
set_option linter.unusedVariables false
set_option linter.unusedSimpArgs false
set_option maxHeartbeats 1000000
variable {k p : Int} {l : List Sl}
def dQ (p k : Int) (i : Nat) (s : Sl) : Bool := !decide (p < s.1) && !(decide ((i : Int) < k) && decide (s.1 = 0))
def je (p k : Int) (l : List Sl) : Bool := l.zipIdx.all fun x => dQ p k x.2 x.1
def bW (p k : Int) (l : List Sl) : Bool := inB p 0 1000000 && bM l && inB k 0 l.length && je p k l
theorem y8 {n : Nat} (hn : l.length = n) (h : ∀ (i : Nat) s, i < n → l[i]? = some s → dQ p k i s = true) : je p k l = true := by
 unfold je;rw [List.all_eq_true];intro x hx;obtain ⟨i, hi, rfl⟩ := List.getElem_of_mem hx;simp only [List.length_zipIdx] at hi;simp only [List.getElem_zipIdx, Nat.zero_add];exact h i _ (by omega) (List.getElem?_eq_getElem hi)
theorem lg {j : Nat} {s : Sl} (hs : l[j]? = some s) (h : dQ p k j s = false) : je p k l = false := by
 unfold je;rw [List.all_eq_false];refine ⟨(s, j), ?_, by simp [h]⟩;have : l.zipIdx[j]? = some (s, j) := by simp [List.getElem?_zipIdx, hs]
 exact List.mem_of_getElem? this
theorem vC (p k : Int) (i : Nat) (b : Int) (t : ByteArray) :
  (p < b ∧ dQ p k i (b, t) = false) ∨ (¬ p < b ∧ ¬ (i : Int) < k ∧ dQ p k i (b, t) = true) ∨ (¬ p < b ∧ (i : Int) < k ∧ b = 0 ∧ dQ p k i (b, t) = false) ∨
  (¬ p < b ∧ (i : Int) < k ∧ ¬ b = 0 ∧ dQ p k i (b, t) = true) := by
 by_cases h1 : p < b
 ·exact .inl ⟨h1, by simp [dQ, h1]⟩
 by_cases h2 : (i : Int) < k
 ·by_cases h3 : b = 0
  ·exact .inr (.inr (.inl ⟨h1, h2, h3, by simp [dQ, h2, h3]⟩))
  exact .inr (.inr (.inr ⟨h1, h2, h3, by simp [dQ, h1, h3]⟩))
 exact .inr (.inl ⟨h1, h2, by simp [dQ, h1, h2]⟩)
theorem xR (p q : Int) (a : Option Addr) (l : List Sl) (n cap : Nat) (w : World) (hn : l.length = n) (hc : n ≤ maxLen) (h : cO w a l) (hno : (inB p 0 1000000 && bM l && inB q 0 n) = false) :
  Calls Try.prog 24 #[.agg #[.int .i64 p, .int .i64 q, .slice a n cap]] w fun e w' => e = .returned (.bool false) ∧ Below w.heap.size w w' := by
 have HL : Hid (l.length = n) := hn;clear hn;have hB : Below w.heap.size w (w.alloc (.cells #[.int .i64 p, .int .i64 q, .slice a n cap] 25)) := ae (Below.refl _ _) _;have hA := h.ext hB;have H0 : Hid ((inB p 0 1000000 && bM l && inB q 0 n) = false) := hno;clear hno;cases g1 : inB p 0 1000000
 ·go_enter Try.func24, Try.ntmps24;go_wp2_with (go_at_call 37; refine (bF _ _ _ _).mono ?_; rintro e w' ⟨rfl, rfl⟩);go_ret;exact ⟨rfl, hB⟩
 cases g2 : bM l
 ·go_enter Try.func24, Try.ntmps24
  go_wp2_with (first
   | (go_at_call 37; refine (bF _ _ _ _).mono ?_; rintro e w' ⟨rfl, rfl⟩)
   | (go_at_call 40; refine (fD a l n cap _ HL.out hc hA).mono ?_; rintro e w' ⟨rfl, rfl⟩))
  go_ret;exact ⟨rfl, hB⟩
 have g3 : inB q 0 n = false := by have := H0.out; simpa [g1, g2] using this
 go_enter Try.func24, Try.ntmps24
 go_wp2_with (first
  | (go_at_call 37; refine (bF _ _ _ _).mono ?_; rintro e w' ⟨rfl, rfl⟩)
  | (go_at_call 40; refine (fD a l n cap _ HL.out hc hA).mono ?_; rintro e w' ⟨rfl, rfl⟩))
 go_ret;exact ⟨rfl, hB⟩
theorem xe (p q : Int) (a : Option Addr) (l : List Sl) (n cap : Nat) (w : World) (hn : l.length = n) (hc : n ≤ maxLen) (h : cO w a l) (g1 : inB p 0 1000000 = true) (g2 : bM l = true) (g3 : inB q 0 n = true) :
  Calls Try.prog 24 #[.agg #[.int .i64 p, .int .i64 q, .slice a n cap]] w fun e w' => e = .returned (.bool (je p q l)) ∧ Below w.heap.size w w' := by
 unfold maxLen at hc;have HL : Hid (l.length = n) := hn;clear hn;have hB : Below w.heap.size w (w.alloc (.cells #[.int .i64 p, .int .i64 q, .slice a n cap] 25)) := ae (Below.refl _ _) _;have hA := h.ext hB;clear h;have hb0 := aC.new w #[.int .i64 p, .int .i64 q, .slice a n cap] 25;obtain ⟨W, hW⟩ : ∃ W, W = w.alloc (.cells #[.int .i64 p, .int .i64 q, .slice a n cap] 25) := ⟨_, rfl⟩
 go_enter Try.func24, Try.ntmps24
 go_wp2_with (first
  | (go_at_call 37; refine (bF _ _ _ _).mono ?_; rintro e w' ⟨rfl, rfl⟩)
  | (go_at_call 40; refine (fD a l n cap _ HL.out hc hA).mono ?_; rintro e w' ⟨rfl, rfl⟩))
 rw [← hW] at hA hB hb0 ⊢;clear hW;go_loopw [3] (fun i wr => ∃ (k : Nat), k ≤ n ∧ i = .int .i64 k ∧ (∀ (i : Nat) s, i < k → l[i]? = some s → dQ p q i s = true) ∧ Below W.heap.size W wr) (fun i _ => n - (intOf i).toNat);case atStart => exact ⟨0, Nat.zero_le _, rfl, fun i s hi => absurd hi (by omega), Below.refl _ _⟩
 obtain ⟨k, hk, rfl, hall0, hbel⟩ := hrel;have hall : Hid (∀ (i : Nat) s, i < k → l[i]? = some s → dQ p q i s = true) := hall0;clear hall0;have hbk := hb0.ext hbel;have cb := hbk.cell;have hbl := hbk.lt;by_cases hlt : k < n
 ·obtain ⟨s, hs0⟩ : ∃ s, l[k]? = some s := ⟨_, List.getElem?_eq_getElem (by rw [HL.out]; exact hlt)⟩
  obtain ⟨b, off, rfl, hb, c0, c1, ht, _⟩ := (hA.ext hbel) k s hs0;have hs : Hid (l[k]? = some s) := hs0;clear hs0;obtain ⟨sb, st⟩ := s;simp only at c0 c1 ht;have e1 : (0 : Int) ≤ (k : Int) := by omega
  have e2 : (k : Int) < (n : Int) := by omega
  rcases vC p q k sb st with ⟨t1, hok⟩ | ⟨t1, t2, hok⟩ | ⟨t1, t2, t3, hok⟩ | ⟨t1, t2, t3, hok⟩
  ·have HK : Hid (dQ p q k (sb, st) = false) := hok;clear hok;have u1 : decide (p < sb) = true := decide_eq_true t1;go_wp2
   go_quiet (fail)
   go_wp2;go_ret;exact ⟨by rw [lg hs.out HK.out]; rfl, aj hB (below_drewN hbel _)⟩
  ·have HK : Hid (dQ p q k (sb, st) = true) := hok;clear hok;have u1 : decide (p < sb) = false := decide_eq_false t1;have u2 : decide ((k : Int) < q) = false := decide_eq_false t2;go_wp2
   go_quiet (fail)
   go_wp2;go_roundw;case rel =>
    refine ⟨k + 1, by omega, by go_num, fun i u hi hu => ?_, below_drewN hbel _⟩;by_cases he : i = k
    ·subst he; rw [hs.out] at hu; simp only [Option.some.injEq] at hu; rw [← hu]; exact HK.out
    exact hall.out i u (by omega) hu
   case measure => simp [intOf]; omega
  ·have HK : Hid (dQ p q k (sb, st) = false) := hok;clear hok;subst t3;have u1 : decide (p < 0) = false := decide_eq_false t1;have u2 : decide ((k : Int) < q) = true := decide_eq_true t2;go_wp2
   go_quiet (fail)
   go_wp2;go_ret;exact ⟨by rw [lg hs.out HK.out]; rfl, aj hB (below_drewN hbel _)⟩
  have HK : Hid (dQ p q k (sb, st) = true) := hok;clear hok;have u1 : decide (p < sb) = false := decide_eq_false t1;have u2 : decide ((k : Int) < q) = true := decide_eq_true t2;have u3 : (sb == 0) = false := beq_eq_false_iff_ne.2 t3;go_wp2
  go_quiet (fail)
  go_wp2;go_roundw;case rel =>
   refine ⟨k + 1, by omega, by go_num, fun i u hi hu => ?_, below_drewN hbel _⟩;by_cases he : i = k
   ·subst he; rw [hs.out] at hu; simp only [Option.some.injEq] at hu; rw [← hu]; exact HK.out
   exact hall.out i u (by omega) hu
  case measure => simp [intOf]; omega
 go_wp2;go_ret;exact ⟨by rw [y8 HL.out (fun i s hi hs => hall.out i s (by omega) hs)]; rfl, aj hB hbel⟩
theorem xY (p q : Int) (a : Option Addr) (l : List Sl) (n cap : Nat) (w : World) (hn : l.length = n) (hc : n ≤ maxLen) (h : cO w a l) (hno : (inB p 0 1000000 && bM l && inB q 0 n) = false) :
  Calls Try.prog 23 #[.agg #[.int .i64 p, .int .i64 q, .slice a n cap]] w fun e w' => e = .returned (.bool false) ∧ Below w.heap.size w w' := by
 have HL : Hid (l.length = n) := hn;clear hn;have hB : Below w.heap.size w (w.alloc (.cells #[.int .i64 p, .int .i64 q, .slice a n cap] 25)) := ae (Below.refl _ _) _;have hA := h.ext hB;have hb0 := aC.new w #[.int .i64 p, .int .i64 q, .slice a n cap] 25;have H0 : Hid ((inB p 0 1000000 && bM l && inB q 0 n) = false) := hno;clear hno;cases g1 : inB p 0 1000000
 ·go_enter Try.func23, Try.ntmps23;go_wp2_with (go_at_call 46; refine (cZ _ _ _ _).mono ?_; rintro e w' ⟨rfl, rfl⟩);go_ret;exact ⟨rfl, hB⟩
 cases g2 : bM l
 ·go_enter Try.func23, Try.ntmps23
  go_wp2_with (first
   | (go_at_call 46; refine (cZ _ _ _ _).mono ?_; rintro e w' ⟨rfl, rfl⟩)
   | (go_at_call 48; refine (dH a l n cap _ HL.out hc hA).mono ?_; rintro e w2 ⟨rfl, hb2⟩; have hb9 := hb0.ext hb2; have cb9 := hb9.cell))
  go_ret;exact ⟨rfl, aj hB hb2⟩
 have g3 : inB q 0 n = false := by have := H0.out; simpa [g1, g2] using this
 go_enter Try.func23, Try.ntmps23
 go_wp2_with (first
  | (go_at_call 46; refine (cZ _ _ _ _).mono ?_; rintro e w' ⟨rfl, rfl⟩)
  | (go_at_call 48; refine (dH a l n cap _ HL.out hc hA).mono ?_; rintro e w2 ⟨rfl, hb2⟩; have hb9 := hb0.ext hb2; have cb9 := hb9.cell))
 go_ret;exact ⟨rfl, aj hB hb2⟩
theorem xO (p q : Int) (a : Option Addr) (l : List Sl) (n cap : Nat) (w : World) (hn : l.length = n) (hc : n ≤ maxLen) (h : cO w a l) (g1 : inB p 0 1000000 = true) (g2 : bM l = true) (g3 : inB q 0 n = true) :
  Calls Try.prog 23 #[.agg #[.int .i64 p, .int .i64 q, .slice a n cap]] w fun e w' => e = .returned (.bool (je p q l)) ∧ Below w.heap.size w w' := by
 unfold maxLen at hc;have HL : Hid (l.length = n) := hn;clear hn;have hB : Below w.heap.size w (w.alloc (.cells #[.int .i64 p, .int .i64 q, .slice a n cap] 25)) := ae (Below.refl _ _) _;have hA := h.ext hB;clear h;have hb0 := aC.new w #[.int .i64 p, .int .i64 q, .slice a n cap] 25;go_enter Try.func23, Try.ntmps23
 go_wp2_with (first
  | (go_at_call 46; refine (cZ _ _ _ _).mono ?_; rintro e w' ⟨rfl, rfl⟩)
  | (go_at_call 48; refine (dH a l n cap _ HL.out hc hA).mono ?_; rintro e w2 ⟨rfl, hb2⟩; have hb9 := hb0.ext hb2; have cb9 := hb9.cell))
 have hA2 := hA.ext hb2;have hB2 := aj hB hb2;clear hA hB hb0 hb2 cb9;go_loopw [27] (fun i wr => ∃ (k : Nat), k ≤ n ∧ i = .int .i64 k ∧ (∀ (i : Nat) s, i < k → l[i]? = some s → dQ p q i s = true) ∧ Below w'.heap.size w' wr) (fun i _ => n - (intOf i).toNat);case atStart => exact ⟨0, Nat.zero_le _, rfl, fun i s hi => absurd hi (by omega), Below.refl _ _⟩
 obtain ⟨k, hk, rfl, hall0, hbel⟩ := hrel;have hall : Hid (∀ (i : Nat) s, i < k → l[i]? = some s → dQ p q i s = true) := hall0;clear hall0;have hbk := hb9.ext hbel;have cb := hbk.cell;have hbl := hbk.lt;by_cases hlt : k < n
 ·obtain ⟨s, hs0⟩ : ∃ s, l[k]? = some s := ⟨_, List.getElem?_eq_getElem (by rw [HL.out]; exact hlt)⟩
  obtain ⟨b, off, rfl, hb, c0, c1, ht, _⟩ := (hA2.ext hbel) k s hs0;have hs : Hid (l[k]? = some s) := hs0;clear hs0;obtain ⟨sb, st⟩ := s;simp only at c0 c1 ht;have e1 : (0 : Int) ≤ (k : Int) := by omega
  have e2 : (k : Int) < (n : Int) := by omega
  rcases vC p q k sb st with ⟨t1, hok⟩ | ⟨t1, t2, hok⟩ | ⟨t1, t2, t3, hok⟩ | ⟨t1, t2, t3, hok⟩
  ·have HK : Hid (dQ p q k (sb, st) = false) := hok;clear hok;have u1 : decide (p < sb) = true := decide_eq_true t1;go_wp2;go_ret;exact ⟨by rw [lg hs.out HK.out]; rfl, aj hB2 (ae hbel _)⟩
  ·have HK : Hid (dQ p q k (sb, st) = true) := hok;clear hok;have u1 : decide (p < sb) = false := decide_eq_false t1;have u2 : decide ((k : Int) < q) = false := decide_eq_false t2;go_wp2;go_roundw;case rel =>
    refine ⟨k + 1, by omega, by go_num, fun i u hi hu => ?_, ae hbel _⟩;by_cases he : i = k
    ·subst he; rw [hs.out] at hu; simp only [Option.some.injEq] at hu; rw [← hu]; exact HK.out
    exact hall.out i u (by omega) hu
   case measure => simp [intOf]; omega
  ·have HK : Hid (dQ p q k (sb, st) = false) := hok;clear hok;subst t3;have u1 : decide (p < 0) = false := decide_eq_false t1;have u2 : decide ((k : Int) < q) = true := decide_eq_true t2;go_wp2;go_ret;exact ⟨by rw [lg hs.out HK.out]; rfl, aj hB2 (ae hbel _)⟩
  have HK : Hid (dQ p q k (sb, st) = true) := hok;clear hok;have u1 : decide (p < sb) = false := decide_eq_false t1;have u2 : decide ((k : Int) < q) = true := decide_eq_true t2;have u3 : (sb == 0) = false := beq_eq_false_iff_ne.2 t3;go_wp2;go_roundw;case rel =>
   refine ⟨k + 1, by omega, by go_num, fun i u hi hu => ?_, ae hbel _⟩;by_cases he : i = k
   ·subst he; rw [hs.out] at hu; simp only [Option.some.injEq] at hu; rw [← hu]; exact HK.out
   exact hall.out i u (by omega) hu
  case measure => simp [intOf]; omega
 go_wp2;go_ret;exact ⟨by rw [y8 HL.out (fun i s hi hs => hall.out i s (by omega) hs)]; rfl, aj hB2 hbel⟩
theorem qp (p q : Int) (a : Option Addr) (l : List Sl) (n cap : Nat) (w : World) (hn : l.length = n) (hc : n ≤ maxLen) (h : cO w a l) :
  Calls Try.prog 24 #[.agg #[.int .i64 p, .int .i64 q, .slice a n cap]] w fun e w' => e = .returned (.bool (bW p q l)) ∧ Below w.heap.size w w' := by
 cases hno : (inB p 0 1000000 && bM l && inB q 0 n)
 ·have e : bW p q l = false := by unfold bW; rw [hn, hno]; rfl
  rw [e];exact xR p q a l n cap w hn hc h hno
 have e : bW p q l = je p q l := by unfold bW; rw [hn, hno]; rfl
 rw [e];simp only [Bool.and_eq_true] at hno;exact xe p q a l n cap w hn hc h hno.1.1 hno.1.2 hno.2
theorem dB (p q : Int) (a : Option Addr) (l : List Sl) (n cap : Nat) (w : World) (hn : l.length = n) (hc : n ≤ maxLen) (h : cO w a l) :
  Calls Try.prog 23 #[.agg #[.int .i64 p, .int .i64 q, .slice a n cap]] w fun e w' => e = .returned (.bool (bW p q l)) ∧ Below w.heap.size w w' := by
 cases hno : (inB p 0 1000000 && bM l && inB q 0 n)
 ·have e : bW p q l = false := by unfold bW; rw [hn, hno]; rfl
  rw [e];exact xY p q a l n cap w hn hc h hno
 have e : bW p q l = je p q l := by unfold bW; rw [hn, hno]; rfl
 rw [e];simp only [Bool.and_eq_true] at hno;exact xO p q a l n cap w hn hc h hno.1.1 hno.1.2 hno.2
end Go.Proofs.Ytjdceoimignnpaa
