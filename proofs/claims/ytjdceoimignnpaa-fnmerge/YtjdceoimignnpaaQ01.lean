import Derived.Test.YtjdceoimignnpaaQ00
import Derived.Deep.RegionHeld3
import Derived.Deep.SlicePairs
import Derived.Lib.SmallJoins
import Derived.WalkSmall
import Derived.Laws.OwnMore
import Derived.Deep.DeepAppendWide
import Derived.Deep.DeepAppendRoom
import Derived.OwnWalk
import Derived.Laws.CopyRow
namespace Go.Proofs.Ytjdceoimignnpaa
open Go.ChangeShapes Go.WideShapes Go.ChangeAt Go.RowKit Go.Deep Go.Joins
set_option linter.unusedVariables false
set_option linter.unusedSimpArgs false
set_option maxHeartbeats 8000000
set_option maxRecDepth 100000
variable {l : List Sl} {g : Nat} {a : Option Addr} {y : Sl} {w w' : World}
def slotOkB (s : Sl) : Bool := inB s.1 0 1000000 && decide ((s.2.size : Int) ≤ 100) && (!decide (s.1 = 0) || s.2.toList.isEmpty)
def slotsOkB (l : List Sl) : Bool := decide (l.length ≤ 60) && l.all slotOkB
theorem empty_size {t : ByteArray} (h : t.toList.isEmpty = true) : t.size = 0 := by
 rw [ByteArray.toList_eq, List.isEmpty_iff] at h;have := congrArg List.length h;simpa using this
theorem slotOkB_zero (t : ByteArray) : slotOkB (0, t) = t.toList.isEmpty := by
 cases h : t.toList.isEmpty
 ·simp [slotOkB, h]
 simp [slotOkB, h, inB, empty_size h]
theorem slotOkB_pos {b : Int} (t : ByteArray) (hb : ¬ b = 0) : slotOkB (b, t) = (inB b 1 1000000 && decide ((t.size : Int) ≤ 100)) := by
 have : inB b 0 1000000 = inB b 1 1000000 := by
  rw [Bool.eq_iff_iff, inB_iff, inB_iff]; omega
 simp [slotOkB, hb, this]
theorem all_of {f : Sl → Bool} {n : Nat} (hn : l.length = n) (h : ∀ (i : Nat) s, i < n → l[i]? = some s → f s = true) : l.all f = true := by
 rw [List.all_eq_true];intro s hs;obtain ⟨i, hi, rfl⟩ := List.getElem_of_mem hs;exact h i _ (by omega) (List.getElem?_eq_getElem hi)
theorem not_all_of {f : Sl → Bool} {k : Nat} {s : Sl} (hs : l[k]? = some s) (h : f s = false) : l.all f = false := by
 rw [List.all_eq_false];exact ⟨s, List.mem_of_getElem? hs, by simp [h]⟩
theorem slotOk_any (b : Int) (t : ByteArray) (w : World) (ht : t.size ≤ maxLen) :
  Calls Try.prog 76 #[.agg #[.int .i64 b, .string t]] w fun e w' => e = .returned (.bool (slotOkB (b, t))) ∧ w' = w.alloc (.cells #[.int .i64 b, .string t] 43) := by
 unfold maxLen at ht;by_cases hb : b = 0
 ·subst hb;rw [slotOkB_zero];go_enter Try.func76, Try.ntmps76;go_wp2;go_ret;exact ⟨rfl, rfl⟩
 have hb' : (b == 0) = false := beq_eq_false_iff_ne.2 hb;rw [slotOkB_pos t hb];cases h1 : inB b 1 1000000
 ·go_enter Try.func76, Try.ntmps76;go_wp2_with (go_at_call 46; refine (within_any _ _ _ _).mono ?_; rintro e w' ⟨rfl, rfl⟩);go_ret;exact ⟨rfl, rfl⟩
 go_enter Try.func76, Try.ntmps76;go_wp2_with (go_at_call 46; refine (within_any _ _ _ _).mono ?_; rintro e w' ⟨rfl, rfl⟩);go_ret;exact ⟨by simp, rfl⟩
theorem implSlotsOk (a : Option Addr) (l : List Sl) (n cap : Nat) (w : World) (hn : l.length = n) (hc : n ≤ maxLen) (h : SlotsAt w a l) :
  Calls Try.prog 48 #[.slice a n cap] w fun e w' => e = .returned (.bool (slotsOkB l)) ∧ Below w.heap.size w w' := by
 unfold maxLen at hc;have HL : Hid (l.length = n) := hn;clear hn;by_cases hz : n ≤ 60
 ·have HA : Hid (slotsOkB l = l.all slotOkB) := by unfold Hid slotsOkB; rw [HL.out]; simp [hz]
  go_enter Try.func48, Try.ntmps48;go_wp2;go_loopw [10] (fun i wr => ∃ (k : Nat), k ≤ n ∧ i = .int .i64 k ∧ (∀ (i : Nat) s, i < k → l[i]? = some s → slotOkB s = true) ∧ Below w.heap.size w wr) (fun i _ => n - (intOf i).toNat);case atStart => exact ⟨0, Nat.zero_le _, rfl, fun i s hi => absurd hi (by omega), Below.refl _ _⟩
  obtain ⟨k, hk, rfl, hall0, hbel⟩ := hrel;have hall : Hid (∀ (i : Nat) s, i < k → l[i]? = some s → slotOkB s = true) := hall0;clear hall0;by_cases hlt : k < n
  ·obtain ⟨s, hs0⟩ : ∃ s, l[k]? = some s := ⟨_, List.getElem?_eq_getElem (by rw [HL.out]; exact hlt)⟩
   obtain ⟨b, off, rfl, hb, c0, c1, ht, _⟩ := (h.ext hbel) k s hs0;have hs : Hid (l[k]? = some s) := hs0;clear hs0;obtain ⟨sb, st⟩ := s;cases hok : slotOkB (sb, st)
   ·go_wp2_with (go_at_call 76; refine (slotOk_any _ _ _ ht).mono ?_; rintro e w' ⟨rfl, rfl⟩);go_ret;exact ⟨by rw [HA.out, not_all_of hs.out hok]; rfl, ext_alloc (ext_alloc hbel _) _⟩
   go_wp2_with (go_at_call 76; refine (slotOk_any _ _ _ ht).mono ?_; rintro e w' ⟨rfl, rfl⟩);go_roundw;case rel =>
    refine ⟨k + 1, by omega, by go_num, fun i u hi hu => ?_, ext_alloc (ext_alloc hbel _) _⟩;by_cases he : i = k
    ·subst he; rw [hs.out] at hu; simp only [Option.some.injEq] at hu; rw [← hu]; exact hok
    exact hall.out i u (by omega) hu
   case measure => simp [intOf]; omega
  go_wp2;go_ret;exact ⟨by rw [HA.out, all_of HL.out (fun i s hi hs => hall.out i s (by omega) hs)]; rfl, hbel⟩
 have HA : Hid (slotsOkB l = false) := by unfold Hid slotsOkB; rw [HL.out]; simp [hz]
 go_enter Try.func48, Try.ntmps48;go_wp2;go_ret;exact ⟨by rw [HA.out]; rfl, Below.refl _ _⟩
theorem slot_cases (b : Int) (t : ByteArray) :
  (inB b 0 1000000 = false ∧ slotOkB (b, t) = false) ∨ (inB b 0 1000000 = true ∧ (100 : Int) < (t.size : Int) ∧ slotOkB (b, t) = false) ∨
  (inB b 0 1000000 = true ∧ (t.size : Int) ≤ 100 ∧ b = 0 ∧ t.toList.isEmpty = false ∧ slotOkB (b, t) = false) ∨
  (inB b 0 1000000 = true ∧ (t.size : Int) ≤ 100 ∧ b = 0 ∧ t.toList.isEmpty = true ∧ slotOkB (b, t) = true) ∨
  (inB b 0 1000000 = true ∧ (t.size : Int) ≤ 100 ∧ (b == 0) = false ∧ slotOkB (b, t) = true) := by
 cases h1 : inB b 0 1000000
 ·exact .inl ⟨rfl, by simp [slotOkB, h1]⟩
 by_cases h2 : (t.size : Int) ≤ 100
 ·by_cases h3 : b = 0
  ·cases h4 : t.toList.isEmpty
   ·exact .inr (.inr (.inl ⟨rfl, h2, h3, rfl, by simp [slotOkB, h1, h3, h4]⟩))
   exact .inr (.inr (.inr (.inl ⟨rfl, h2, h3, rfl, by simp [slotOkB, h1, h2, h4]⟩)))
  exact .inr (.inr (.inr (.inr ⟨rfl, h2, beq_eq_false_iff_ne.2 h3, by simp [slotOkB, h1, h2, h3]⟩)))
 exact .inr (.inl ⟨rfl, by omega, by simp [slotOkB, h2]⟩)
theorem specSlotsOk (a : Option Addr) (l : List Sl) (n cap : Nat) (w : World) (hn : l.length = n) (hc : n ≤ maxLen) (h : SlotsAt w a l) :
  Calls Try.prog 40 #[.slice a n cap] w fun e w' => e = .returned (.bool (slotsOkB l)) ∧ w' = w := by
 unfold maxLen at hc;have HL : Hid (l.length = n) := hn;clear hn;by_cases hz : n ≤ 60
 ·have HA : Hid (slotsOkB l = l.all slotOkB) := by unfold Hid slotsOkB; rw [HL.out]; simp [hz]
  go_enter Try.func40, Try.ntmps40;go_wp2
  go_loop [3] (fun i => ∃ (k : Nat), k ≤ n ∧ i = .int .i64 k ∧ (∀ (i : Nat) s, i < k → l[i]? = some s → slotOkB s = true)) (fun i => n - (intOf i).toNat)
  case atStart => exact ⟨0, Nat.zero_le _, rfl, fun i s hi => absurd hi (by omega)⟩
  obtain ⟨k, hk, rfl, hall0⟩ := hrel;have hall : Hid (∀ (i : Nat) s, i < k → l[i]? = some s → slotOkB s = true) := hall0;clear hall0;by_cases hlt : k < n
  ·obtain ⟨s, hs0⟩ : ∃ s, l[k]? = some s := ⟨_, List.getElem?_eq_getElem (by rw [HL.out]; exact hlt)⟩
   obtain ⟨b, off, rfl, hb, c0, c1, ht, _⟩ := h k s hs0;unfold maxLen at ht;have hs : Hid (l[k]? = some s) := hs0;clear hs0;obtain ⟨sb, st⟩ := s;simp only at c0 c1 ht;rcases slot_cases sb st with ⟨g1, hok⟩ | ⟨g1, g2, hok⟩ | ⟨g1, g2, g3, g4, hok⟩ | ⟨g1, g2, g3, g4, hok⟩ | ⟨g1, g2, g3, hok⟩
   ·have HK : Hid (slotOkB (sb, st) = false) := hok;clear hok;go_wp2_with (go_at_call 37; refine (l1In_any _ _ _ _).mono ?_; rintro e w' ⟨rfl, rfl⟩);go_ret;exact ⟨by rw [HA.out, not_all_of hs.out HK.out]; rfl, rfl⟩
   ·have HK : Hid (slotOkB (sb, st) = false) := hok;clear hok;go_wp2_with (go_at_call 37; refine (l1In_any _ _ _ _).mono ?_; rintro e w' ⟨rfl, rfl⟩);go_ret;exact ⟨by rw [HA.out, not_all_of hs.out HK.out]; rfl, rfl⟩
   ·have HK : Hid (slotOkB (sb, st) = false) := hok;clear hok;subst g3;go_wp2_with (go_at_call 37; refine (l1In_any _ _ _ _).mono ?_; rintro e w' ⟨rfl, rfl⟩);go_ret;exact ⟨by rw [HA.out, not_all_of hs.out HK.out]; rfl, rfl⟩
   ·have HK : Hid (slotOkB (sb, st) = true) := hok;clear hok;subst g3;go_wp2_with (go_at_call 37; refine (l1In_any _ _ _ _).mono ?_; rintro e w' ⟨rfl, rfl⟩)
    go_round
    case rel =>
     refine ⟨k + 1, by omega, by go_num, fun i u hi hu => ?_⟩;by_cases he : i = k
     ·subst he; rw [hs.out] at hu; simp only [Option.some.injEq] at hu; rw [← hu]; exact HK.out
     exact hall.out i u (by omega) hu
    case measure => simp [intOf]; omega
   have HK : Hid (slotOkB (sb, st) = true) := hok;clear hok;go_wp2_with (go_at_call 37; refine (l1In_any _ _ _ _).mono ?_; rintro e w' ⟨rfl, rfl⟩)
   go_round
   case rel =>
    refine ⟨k + 1, by omega, by go_num, fun i u hi hu => ?_⟩;by_cases he : i = k
    ·subst he; rw [hs.out] at hu; simp only [Option.some.injEq] at hu; rw [← hu]; exact HK.out
    exact hall.out i u (by omega) hu
   case measure => simp [intOf]; omega
  go_wp2;go_ret;exact ⟨by rw [HA.out, all_of HL.out (fun i s hi hs => hall.out i s (by omega) hs)]; rfl, rfl⟩
 have HA : Hid (slotsOkB l = false) := by unfold Hid slotsOkB; rw [HL.out]; simp [hz]
 go_enter Try.func40, Try.ntmps40;go_wp2;go_ret;exact ⟨by rw [HA.out]; rfl, rfl⟩

def HoldsTo (C : Array Value) (l : List Sl) (k : Nat) : Prop :=
 C.size = l.length * 2 ∧ ∀ i s, i < k → l[i]? = some s → C[i * 2]? = some (.int .i64 s.1) ∧ C[i * 2 + 1]? = some (.string s.2)
def SlotsOwn (w : World) (g : Nat) (l : List Sl) : Prop := ∃ C, Blk w g C 43 ∧ HoldsTo C l l.length
def GoodSlots (l : List Sl) : Prop := ∀ (i : Nat) s, l[i]? = some s → s.2.size ≤ maxLen ∧ (Lit.int .i64 s.1).wf = true
theorem SlotsAt.good (h : SlotsAt w a l) : GoodSlots l := fun i s hs => by
 obtain ⟨b, off, _, _, _, _, r⟩ := h i s hs;exact r
theorem SlotsOwn.at (h : SlotsOwn w g l) (hg : GoodSlots l) : SlotsAt w (some ⟨g, 0, none⟩) l := fun i s hs => by
 obtain ⟨C, hb, hz, hc⟩ := h;have hi : i < l.length := (List.getElem?_eq_some_iff.1 hs).1;obtain ⟨c0, c1⟩ := hc i s hi hs;exact ⟨g, 0, rfl, hb.lt, by rw [Nat.zero_add, hb.cell, c0], by rw [Nat.zero_add, hb.cell, c1], hg i s hs⟩
structure MsgH where
 k : Int
 f : Int
 t : Int
 b : Int
 i : Int
 n : Int
 x : ByteArray
abbrev msgV (h : MsgH) (v : Value) : Array Value := #[.int .i64 h.k, .int .i64 h.f, .int .i64 h.t, .int .i64 h.b, .int .i64 h.i, .int .i64 h.n, .string h.x, v]
def msgOkB (h : MsgH) (of_ : Int) (l : List Sl) : Bool :=
 inB h.k 1 9 && inB h.f 1 of_ && inB h.t 1 of_ && inB h.b 0 1000000 && inB h.i 0 60 && inB h.n 0 60 && decide ((h.x.size : Int) ≤ 100) && slotsOkB l
theorem specMsgOk (h : MsgH) (of_ : Int) (a : Option Addr) (l : List Sl) (n cap : Nat) (w : World) (hn : l.length = n) (hc : n ≤ maxLen) (hx : h.x.size ≤ maxLen) (hs : SlotsAt w a l) :
  Calls Try.prog 26 #[.agg (msgV h (.slice a n cap)), .int .i64 of_] w fun e w' => e = .returned (.bool (msgOkB h of_ l)) ∧ Below w.heap.size w w' := by
 have HL : Hid (l.length = n) := hn;have HX : Hid (h.x.size ≤ maxLen) := hx;unfold maxLen at hx;clear hn;have hB : Below w.heap.size w (w.alloc (.cells (msgV h (.slice a n cap)) 49)) := ext_alloc (Below.refl _ _) _;have hA := hs.ext hB;clear hs;cases g0 : inB h.k 1 9
 ·rw [show msgOkB h of_ l = false by simp [msgOkB, g0]];go_enter Try.func26, Try.ntmps26
  go_wp2_with (first
    | (go_at_call 37; refine (l1In_any _ _ _ _).mono ?_; rintro e w' ⟨rfl, rfl⟩)
    | (go_at_call 40; refine (specSlotsOk a l n cap _ HL.out hc hA).mono ?_; rintro e w9 ⟨rfl, rfl⟩))
  go_ret;exact ⟨rfl, hB⟩
 skip
 cases g1 : inB h.f 1 of_
 ·rw [show msgOkB h of_ l = false by simp [msgOkB, g0, g1]];go_enter Try.func26, Try.ntmps26
  go_wp2_with (first
   | (go_at_call 37; refine (l1In_any _ _ _ _).mono ?_; rintro e w' ⟨rfl, rfl⟩)
   | (go_at_call 40; refine (specSlotsOk a l n cap _ HL.out hc hA).mono ?_; rintro e w9 ⟨rfl, rfl⟩))
  go_ret;exact ⟨rfl, hB⟩
 skip
 cases g2 : inB h.t 1 of_
 ·rw [show msgOkB h of_ l = false by simp [msgOkB, g0, g1, g2]];go_enter Try.func26, Try.ntmps26
  go_wp2_with (first
  | (go_at_call 37; refine (l1In_any _ _ _ _).mono ?_; rintro e w' ⟨rfl, rfl⟩)
  | (go_at_call 40; refine (specSlotsOk a l n cap _ HL.out hc hA).mono ?_; rintro e w9 ⟨rfl, rfl⟩))
  go_ret;exact ⟨rfl, hB⟩
 skip
 cases g3 : inB h.b 0 1000000
 ·rw [show msgOkB h of_ l = false by simp [msgOkB, g0, g1, g2, g3]];go_enter Try.func26, Try.ntmps26
  go_wp2_with (first
 | (go_at_call 37; refine (l1In_any _ _ _ _).mono ?_; rintro e w' ⟨rfl, rfl⟩)
 | (go_at_call 40; refine (specSlotsOk a l n cap _ HL.out hc hA).mono ?_; rintro e w9 ⟨rfl, rfl⟩))
  go_ret;exact ⟨rfl, hB⟩
 skip
 cases g4 : inB h.i 0 60
 ·rw [show msgOkB h of_ l = false by simp [msgOkB, g0, g1, g2, g3, g4]];go_enter Try.func26, Try.ntmps26
  go_wp2_with (first
 | (go_at_call 37; refine (l1In_any _ _ _ _).mono ?_; rintro e w' ⟨rfl, rfl⟩)
 | (go_at_call 40; refine (specSlotsOk a l n cap _ HL.out hc hA).mono ?_; rintro e w9 ⟨rfl, rfl⟩))
  go_ret;exact ⟨rfl, hB⟩
 skip
 cases g5 : inB h.n 0 60
 ·rw [show msgOkB h of_ l = false by simp [msgOkB, g0, g1, g2, g3, g4, g5]];go_enter Try.func26, Try.ntmps26
  go_wp2_with (first
 | (go_at_call 37; refine (l1In_any _ _ _ _).mono ?_; rintro e w' ⟨rfl, rfl⟩)
 | (go_at_call 40; refine (specSlotsOk a l n cap _ HL.out hc hA).mono ?_; rintro e w9 ⟨rfl, rfl⟩))
  go_ret;exact ⟨rfl, hB⟩
 skip
 by_cases g6 : (h.x.size : Int) ≤ 100
 ·rw [show msgOkB h of_ l = slotsOkB l by simp [msgOkB, g0, g1, g2, g3, g4, g5, g6]];cases g7 : slotsOkB l
  ·go_enter Try.func26, Try.ntmps26
   go_wp2_with (first
 | (go_at_call 37; refine (l1In_any _ _ _ _).mono ?_; rintro e w' ⟨rfl, rfl⟩)
 | (go_at_call 40; refine (specSlotsOk a l n cap _ HL.out hc hA).mono ?_; rintro e w9 ⟨rfl, rfl⟩))
   go_ret;exact ⟨rfl, hB⟩
  go_enter Try.func26, Try.ntmps26
  go_wp2_with (first
 | (go_at_call 37; refine (l1In_any _ _ _ _).mono ?_; rintro e w' ⟨rfl, rfl⟩)
 | (go_at_call 40; refine (specSlotsOk a l n cap _ HL.out hc hA).mono ?_; rintro e w9 ⟨rfl, rfl⟩))
  go_ret;exact ⟨rfl, hB⟩
 rw [show msgOkB h of_ l = false by simp [msgOkB, g6]];go_enter Try.func26, Try.ntmps26
 go_wp2_with (first
 | (go_at_call 37; refine (l1In_any _ _ _ _).mono ?_; rintro e w' ⟨rfl, rfl⟩)
 | (go_at_call 40; refine (specSlotsOk a l n cap _ HL.out hc hA).mono ?_; rintro e w9 ⟨rfl, rfl⟩))
 go_ret;exact ⟨rfl, hB⟩
theorem implMsgOk (h : MsgH) (of_ : Int) (a : Option Addr) (l : List Sl) (n cap : Nat) (w : World) (hn : l.length = n) (hc : n ≤ maxLen) (hx : h.x.size ≤ maxLen) (hs : SlotsAt w a l) :
  Calls Try.prog 25 #[.agg (msgV h (.slice a n cap)), .int .i64 of_] w fun e w' => e = .returned (.bool (msgOkB h of_ l)) ∧ Below w.heap.size w w' := by
 have HL : Hid (l.length = n) := hn;have HX : Hid (h.x.size ≤ maxLen) := hx;unfold maxLen at hx;clear hn;have hB : Below w.heap.size w (w.alloc (.cells (msgV h (.slice a n cap)) 49)) := ext_alloc (Below.refl _ _) _;have hA := hs.ext hB;clear hs;cases g0 : inB h.k 1 9
 ·rw [show msgOkB h of_ l = false by simp [msgOkB, g0]];go_enter Try.func25, Try.ntmps25
  go_wp2_with (first
    | (go_at_call 46; refine (within_any _ _ _ _).mono ?_; rintro e w' ⟨rfl, rfl⟩)
    | (go_at_call 48; refine (implSlotsOk a l n cap _ HL.out hc hA).mono ?_; rintro e w9 ⟨rfl, hb9⟩))
  go_ret;exact ⟨rfl, hB⟩
 skip
 cases g1 : inB h.f 1 of_
 ·rw [show msgOkB h of_ l = false by simp [msgOkB, g0, g1]];go_enter Try.func25, Try.ntmps25
  go_wp2_with (first
   | (go_at_call 46; refine (within_any _ _ _ _).mono ?_; rintro e w' ⟨rfl, rfl⟩)
   | (go_at_call 48; refine (implSlotsOk a l n cap _ HL.out hc hA).mono ?_; rintro e w9 ⟨rfl, hb9⟩))
  go_ret;exact ⟨rfl, hB⟩
 skip
 cases g2 : inB h.t 1 of_
 ·rw [show msgOkB h of_ l = false by simp [msgOkB, g0, g1, g2]];go_enter Try.func25, Try.ntmps25
  go_wp2_with (first
  | (go_at_call 46; refine (within_any _ _ _ _).mono ?_; rintro e w' ⟨rfl, rfl⟩)
  | (go_at_call 48; refine (implSlotsOk a l n cap _ HL.out hc hA).mono ?_; rintro e w9 ⟨rfl, hb9⟩))
  go_ret;exact ⟨rfl, hB⟩
 skip
 cases g3 : inB h.b 0 1000000
 ·rw [show msgOkB h of_ l = false by simp [msgOkB, g0, g1, g2, g3]];go_enter Try.func25, Try.ntmps25
  go_wp2_with (first
 | (go_at_call 46; refine (within_any _ _ _ _).mono ?_; rintro e w' ⟨rfl, rfl⟩)
 | (go_at_call 48; refine (implSlotsOk a l n cap _ HL.out hc hA).mono ?_; rintro e w9 ⟨rfl, hb9⟩))
  go_ret;exact ⟨rfl, hB⟩
 skip
 cases g4 : inB h.i 0 60
 ·rw [show msgOkB h of_ l = false by simp [msgOkB, g0, g1, g2, g3, g4]];go_enter Try.func25, Try.ntmps25
  go_wp2_with (first
 | (go_at_call 46; refine (within_any _ _ _ _).mono ?_; rintro e w' ⟨rfl, rfl⟩)
 | (go_at_call 48; refine (implSlotsOk a l n cap _ HL.out hc hA).mono ?_; rintro e w9 ⟨rfl, hb9⟩))
  go_ret;exact ⟨rfl, hB⟩
 skip
 cases g5 : inB h.n 0 60
 ·rw [show msgOkB h of_ l = false by simp [msgOkB, g0, g1, g2, g3, g4, g5]];go_enter Try.func25, Try.ntmps25
  go_wp2_with (first
 | (go_at_call 46; refine (within_any _ _ _ _).mono ?_; rintro e w' ⟨rfl, rfl⟩)
 | (go_at_call 48; refine (implSlotsOk a l n cap _ HL.out hc hA).mono ?_; rintro e w9 ⟨rfl, hb9⟩))
  go_ret;exact ⟨rfl, hB⟩
 skip
 by_cases g6 : (h.x.size : Int) ≤ 100
 ·rw [show msgOkB h of_ l = slotsOkB l by simp [msgOkB, g0, g1, g2, g3, g4, g5, g6]];cases g7 : slotsOkB l
  ·go_enter Try.func25, Try.ntmps25
   go_wp2_with (first
 | (go_at_call 46; refine (within_any _ _ _ _).mono ?_; rintro e w' ⟨rfl, rfl⟩)
 | (go_at_call 48; refine (implSlotsOk a l n cap _ HL.out hc hA).mono ?_; rintro e w9 ⟨rfl, hb9⟩))
   go_ret;exact ⟨rfl, ext_trans hB hb9⟩
  go_enter Try.func25, Try.ntmps25
  go_wp2_with (first
 | (go_at_call 46; refine (within_any _ _ _ _).mono ?_; rintro e w' ⟨rfl, rfl⟩)
 | (go_at_call 48; refine (implSlotsOk a l n cap _ HL.out hc hA).mono ?_; rintro e w9 ⟨rfl, hb9⟩))
  go_ret;exact ⟨rfl, ext_trans hB hb9⟩
 rw [show msgOkB h of_ l = false by simp [msgOkB, g6]];go_enter Try.func25, Try.ntmps25
 go_wp2_with (first
 | (go_at_call 46; refine (within_any _ _ _ _).mono ?_; rintro e w' ⟨rfl, rfl⟩)
 | (go_at_call 48; refine (implSlotsOk a l n cap _ HL.out hc hA).mono ?_; rintro e w9 ⟨rfl, hb9⟩))
 go_ret;exact ⟨rfl, hB⟩


def OneAt {α : Type} (enc : α → Value) (good : α → Prop) (w : World) (a : Option Addr) (l : List α) : Prop :=
 ∀ (i : Nat) s, l[i]? = some s → ∃ b off, a = some ⟨b, off, none⟩ ∧ b < w.heap.size ∧ w.cell? ⟨b, off + i, none⟩ = some (enc s) ∧ good s
theorem OneAt.ext {α : Type} {enc : α → Value} {good : α → Prop} {w w' : World} {a : Option Addr} {l : List α} (h : OneAt enc good w a l) (hb : Below w.heap.size w w') : OneAt enc good w' a l := fun i s hs => by
 obtain ⟨b, off, ha, hlt, c0, r⟩ := h i s hs;exact ⟨b, off, ha, Nat.lt_of_lt_of_le hlt hb.size, (hb.cell (p := ⟨b, off + i, none⟩) hlt).trans c0, r⟩
def GoodOnes {α : Type} (good : α → Prop) (l : List α) : Prop := ∀ (i : Nat) s, l[i]? = some s → good s
theorem OneAt.good {α : Type} {enc : α → Value} {good : α → Prop} {w : World} {a : Option Addr} {l : List α} (h : OneAt enc good w a l) : GoodOnes good l := fun i s hs => by
 obtain ⟨b, off, _, _, _, r⟩ := h i s hs;exact r
def wfI (z : Int) : Prop := (Lit.int .i64 z).wf = true
def okS (t : ByteArray) : Prop := t.size ≤ maxLen
abbrev IntsAt (w : World) (a : Option Addr) (l : List Int) : Prop := OneAt (fun z => Value.int .i64 z) wfI w a l
abbrev StrsAt (w : World) (a : Option Addr) (l : List ByteArray) : Prop := OneAt (fun t => Value.string t) okS w a l
abbrev Ak := Int × List Int
def AcksAt (w : World) (a : Option Addr) (l : List Ak) : Prop :=
 ∀ (i : Nat) s, l[i]? = some s → ∃ b off sa cap, a = some ⟨b, off, none⟩ ∧ b < w.heap.size ∧ w.cell? ⟨b, off + i * 2, none⟩ = some (.int .i64 s.1) ∧ w.cell? ⟨b, off + i * 2 + 1, none⟩ = some (.slice sa s.2.length cap) ∧ wfI s.1 ∧ s.2.length ≤ maxLen ∧ IntsAt w sa s.2
theorem AcksAt.ext {l : List Ak} (h : AcksAt w a l) (hb : Below w.heap.size w w') : AcksAt w' a l := fun i s hs => by
 obtain ⟨b, off, sa, cap, ha, hlt, c0, c1, h1, h2, h3⟩ := h i s hs;exact ⟨b, off, sa, cap, ha, Nat.lt_of_lt_of_le hlt hb.size, (hb.cell (p := ⟨b, off + i * 2, none⟩) hlt).trans c0, (hb.cell (p := ⟨b, off + i * 2 + 1, none⟩) hlt).trans c1, h1, h2, h3.ext hb⟩
def AcksGood (l : List Ak) : Prop := ∀ (i : Nat) s, l[i]? = some s → wfI s.1 ∧ s.2.length ≤ maxLen ∧ GoodOnes wfI s.2
theorem AcksAt.good {l : List Ak} (h : AcksAt w a l) : AcksGood l := fun i s hs => by
 obtain ⟨b, off, sa, cap, ha, hlt, c0, c1, h1, h2, h3⟩ := h i s hs;exact ⟨h1, h2, h3.good⟩
def AcksSmall (l : List Ak) : Prop := ∀ (i : Nat) s, l[i]? = some s → s.2.length ≤ 1048576
abbrev Ms := MsgH × List Sl
def MsgsAt (w : World) (a : Option Addr) (l : List Ms) : Prop :=
 ∀ (i : Nat) s, l[i]? = some s → ∃ b off sa cap, a = some ⟨b, off, none⟩ ∧ b < w.heap.size ∧ w.cell? ⟨b, off + i * 8, none⟩ = some (.int .i64 s.1.k) ∧ w.cell? ⟨b, off + i * 8 + 1, none⟩ = some (.int .i64 s.1.f) ∧ w.cell? ⟨b, off + i * 8 + 2, none⟩ = some (.int .i64 s.1.t) ∧ w.cell? ⟨b, off + i * 8 + 3, none⟩ = some (.int .i64 s.1.b) ∧ w.cell? ⟨b, off + i * 8 + 4, none⟩ = some (.int .i64 s.1.i) ∧ w.cell? ⟨b, off + i * 8 + 5, none⟩ = some (.int .i64 s.1.n) ∧ w.cell? ⟨b, off + i * 8 + 6, none⟩ = some (.string s.1.x) ∧ w.cell? ⟨b, off + i * 8 + 7, none⟩ = some (.slice sa s.2.length cap) ∧ s.1.x.size ≤ maxLen ∧ s.2.length ≤ maxLen ∧ SlotsAt w sa s.2
theorem MsgsAt.ext {l : List Ms} (h : MsgsAt w a l) (hb : Below w.heap.size w w') : MsgsAt w' a l := fun i s hs => by
 obtain ⟨b, off, sa, cap, ha, hlt, c0, c1, c2, c3, c4, c5, c6, c7, h1, h2, h3⟩ := h i s hs;exact ⟨b, off, sa, cap, ha, Nat.lt_of_lt_of_le hlt hb.size, (hb.cell (p := ⟨b, off + i * 8, none⟩) hlt).trans c0, (hb.cell (p := ⟨b, off + i * 8 + 1, none⟩) hlt).trans c1, (hb.cell (p := ⟨b, off + i * 8 + 2, none⟩) hlt).trans c2, (hb.cell (p := ⟨b, off + i * 8 + 3, none⟩) hlt).trans c3, (hb.cell (p := ⟨b, off + i * 8 + 4, none⟩) hlt).trans c4, (hb.cell (p := ⟨b, off + i * 8 + 5, none⟩) hlt).trans c5, (hb.cell (p := ⟨b, off + i * 8 + 6, none⟩) hlt).trans c6, (hb.cell (p := ⟨b, off + i * 8 + 7, none⟩) hlt).trans c7, h1, h2, h3.ext hb⟩
def MsgsGood (l : List Ms) : Prop := ∀ (i : Nat) s, l[i]? = some s → s.1.x.size ≤ maxLen ∧ s.2.length ≤ maxLen ∧ GoodSlots s.2
theorem MsgsAt.good {l : List Ms} (h : MsgsAt w a l) : MsgsGood l := fun i s hs => by
 obtain ⟨b, off, sa, cap, ha, hlt, c0, c1, c2, c3, c4, c5, c6, c7, h1, h2, h3⟩ := h i s hs;exact ⟨h1, h2, h3.good⟩
def MsgsSmall (l : List Ms) : Prop := ∀ (i : Nat) s, l[i]? = some s → s.2.length ≤ 1048576
structure Rc where
 num : Int
 of_ : Int
 up : Bool
 sp : Int
 sk : Int
 ss : List Sl
 dp : Int
 dk : Int
 ds : List Sl
 held : List Ms
 wish : List ByteArray
 lead : Bool
 tr : Bool
 ball : Int
 yes : List Int
 best : List Sl
 acks : List Ak
 heard : Int
structure RcP where
 aS : Option Addr
 cS : Nat
 aD : Option Addr
 cD : Nat
 aH : Option Addr
 cH : Nat
 aW : Option Addr
 cW : Nat
 aY : Option Addr
 cY : Nat
 aB : Option Addr
 cB : Nat
 aA : Option Addr
 cA : Nat
abbrev rcV (r : Rc) (p : RcP) : Array Value := #[.int .i64 r.num, .int .i64 r.of_, .bool r.up, .int .i64 r.sp, .int .i64 r.sk, .slice p.aS r.ss.length p.cS, .int .i64 r.dp, .int .i64 r.dk, .slice p.aD r.ds.length p.cD, .slice p.aH r.held.length p.cH, .slice p.aW r.wish.length p.cW, .bool r.lead, .bool r.tr, .int .i64 r.ball, .slice p.aY r.yes.length p.cY, .slice p.aB r.best.length p.cB, .slice p.aA r.acks.length p.cA, .int .i64 r.heard]
structure RcAt (w : World) (r : Rc) (p : RcP) : Prop where
 hS : SlotsAt w p.aS r.ss
 lS : r.ss.length ≤ maxLen
 hD : SlotsAt w p.aD r.ds
 lD : r.ds.length ≤ maxLen
 hH : MsgsAt w p.aH r.held
 lH : r.held.length ≤ maxLen
 hW : StrsAt w p.aW r.wish
 lW : r.wish.length ≤ maxLen
 hY : IntsAt w p.aY r.yes
 lY : r.yes.length ≤ maxLen
 hB : SlotsAt w p.aB r.best
 lB : r.best.length ≤ maxLen
 hA : AcksAt w p.aA r.acks
 lA : r.acks.length ≤ maxLen
theorem RcAt.ext {r : Rc} {p : RcP} (h : RcAt w r p) (hb : Below w.heap.size w w') : RcAt w' r p :=
 ⟨h.hS.ext hb, h.lS, h.hD.ext hb, h.lD, h.hH.ext hb, h.lH, h.hW.ext hb, h.lW, h.hY.ext hb, h.lY, h.hB.ext hb, h.lB, h.hA.ext hb, h.lA⟩
structure RcSmall (r : Rc) : Prop where
 lS : r.ss.length ≤ 1048576
 lD : r.ds.length ≤ 1048576
 lH : r.held.length ≤ 1048576
 lW : r.wish.length ≤ 1048576
 lY : r.yes.length ≤ 1048576
 lB : r.best.length ≤ 1048576
 lA : r.acks.length ≤ 1048576
 nH : MsgsSmall r.held
 nA : AcksSmall r.acks
theorem wpList_store_rec_at {ops : Array Oper} {rest : List Oper} {dst : Option Tmp} {x y : Operand} {τ : TypeId} {pos : String} {after : Array Edge} {a : Act} {w : World} {Q : Exit → Act → World → Prop}
  (g : Nat) (old cells : Array Value) (hs : cells.size = 18) (ho : old.size = 18) (hx : a.eval x = .pointer (some ⟨g, 0, none⟩)) (hy : a.eval y = .agg cells) (hg : Blk w g old 31) (h1 : cells.all (·.oneCell') = true)
  (h : wpList Try.prog ops Q rest (a.put dst undef) (w.setRow g cells)) :
  wpList Try.prog ops Q ({ dst := dst, op := .store 31 x y, type := τ, pos := pos, after := after, guard := none } :: rest) a w :=
 wpList_store_row (o := { dst := dst, op := .store 31 x y, type := τ, pos := pos, after := after, guard := none }) rfl 31 x y rfl g cells hx hy 31 old hg (by rw [hs]; kernel_rfl) (by rw [ho, hs]) h1 h
theorem below_setRow' {B : Nat} {a : World} (h : Below B a w) {g : Nat} (hg : B ≤ g) (cs : Array Value) : Below B a (w.setRow g cs) :=
 h.trans ⟨rfl, rfl, rfl, by simp, fun k hk => setRow_other w g k cs (by omega)⟩

theorem hid {p : Prop} (h : p) : Hid p := h
def flat : List Sl → List Value
 | [] => []
 | s :: l => .int .i64 s.1 :: .string s.2 :: flat l
theorem flat_len : ∀ (l : List Sl), (flat l).length = l.length * 2
 | [] => rfl
 | s :: l => by simp [flat, flat_len l]; omega
theorem flat_app : ∀ (a b : List Sl), flat (a ++ b) = flat a ++ flat b
 | [], b => rfl
 | s :: l, b => by simp [flat, flat_app l b]
theorem flat_at : ∀ (l : List Sl) (i : Nat) (s : Sl), l[i]? = some s → (flat l)[i * 2]? = some (.int .i64 s.1) ∧ (flat l)[i * 2 + 1]? = some (.string s.2)
 | [], i, s, h => by simp at h
 | x :: l, 0, s, h => by simp at h; subst h; simp [flat]
 | x :: l, i + 1, s, h => by
  have := flat_at l i s (by simpa using h);rw [show (i + 1) * 2 = i * 2 + 1 + 1 by omega];simpa [flat] using this
theorem flat_set : ∀ (l : List Sl) (k : Nat) (s : Sl), flat (l.set k s) = ((flat l).set (k * 2) (.int .i64 s.1)).set (k * 2 + 1) (.string s.2)
 | [], k, s => by simp [flat]
 | x :: l, 0, s => by simp [flat]
 | x :: l, k + 1, s => by
  rw [show (k + 1) * 2 = k * 2 + 1 + 1 by omega];simp [flat, flat_set l k s]
theorem flat_one : ∀ (l : List Sl) (u : Value), u ∈ flat l → u.oneCell' = true
 | [], u, h => by simp [flat] at h
 | s :: l, u, h => by
  simp only [flat, List.mem_cons] at h;rcases h with rfl | rfl | h
  ·rfl
  ·rfl
  exact flat_one l u h
theorem flat_take : ∀ (l : List Sl) (k : Nat), flat (l.take k) = (flat l).take (k * 2)
 | [], k => by simp [flat]
 | s :: l, 0 => by simp [flat]
 | s :: l, k + 1 => by
  rw [show (k + 1) * 2 = k * 2 + 1 + 1 by omega];simp [flat, flat_take l k]
theorem flat_drop : ∀ (l : List Sl) (k : Nat), flat (l.drop k) = (flat l).drop (k * 2)
 | [], k => by simp [flat]
 | s :: l, 0 => by simp [flat]
 | s :: l, k + 1 => by
  rw [show (k + 1) * 2 = k * 2 + 1 + 1 by omega];simp [flat, flat_drop l k]
theorem blk_own (h : Blk w g (flat l).toArray 43) : SlotsOwn w g l := by
 refine ⟨_, h, by simp [flat_len], fun i s hi hs => ?_⟩;rw [List.getElem?_toArray, List.getElem?_toArray];exact flat_at l i s hs
def pickS (a b : List Sl) (i : Nat) : Sl :=
 match a[i]?, b[i]? with
 | some x, some y => if x.1 < y.1 then y else x
 | some x, none => x
 | none, some y => y
 | none, none => (0, ByteArray.empty)
def mergeL (a b : List Sl) : List Sl := (List.range (max a.length b.length)).map (pickS a b)
theorem mergeL_len (a b : List Sl) : (mergeL a b).length = max a.length b.length := by simp [mergeL]
theorem mergeL_at (a b : List Sl) (i : Nat) : (mergeL a b)[i]? = if i < max a.length b.length then some (pickS a b i) else none := by
 unfold mergeL;split
 ·rename_i h; simp [List.getElem?_map, List.getElem?_range h]
 rename_i h; rw [List.getElem?_eq_none (by simp; omega)]
theorem mergeL_nil (a : List Sl) : mergeL a [] = a := by
 apply List.ext_getElem?;intro i;rw [mergeL_at];by_cases hi : i < a.length
 ·simp [pickS, hi]
 simp [hi]
theorem mergeL_app {a b : List Sl} {k : Nat} (hk : a.length ≤ k) (hy : b[k]? = some y) : mergeL a (b.take (k + 1)) = mergeL a (b.take k) ++ [y] := by
 have hb : k < b.length := (List.getElem?_eq_some_iff.1 hy).1;apply List.ext_getElem?;intro i;rw [List.getElem?_append, mergeL_at, mergeL_len];simp only [List.length_take];have e1 : max a.length (min (k + 1) b.length) = k + 1 := by omega
 have e2 : max a.length (min k b.length) = k := by omega
 rw [e1, e2];by_cases h1 : i < k
 ·rw [if_pos (by omega), if_pos h1, mergeL_at];simp only [List.length_take];rw [e2, if_pos h1];simp [pickS, List.getElem?_take, h1, show i < k + 1 by omega]
 rw [if_neg h1];by_cases h2 : i = k
 ·subst h2;simp [pickS, List.getElem?_take, hy, List.getElem?_eq_none hk]
 rw [if_neg (by omega), List.getElem?_eq_none (by simp; omega)]
theorem mergeL_keep {a b : List Sl} {k : Nat} {x : Sl} (hx : a[k]? = some x) (hy : b[k]? = some y) (h : ¬ x.1 < y.1) : mergeL a (b.take (k + 1)) = mergeL a (b.take k) := by
 have ha : k < a.length := (List.getElem?_eq_some_iff.1 hx).1;have hb : k < b.length := (List.getElem?_eq_some_iff.1 hy).1;apply List.ext_getElem?;intro i;rw [mergeL_at, mergeL_at];simp only [List.length_take];have e1 : max a.length (min (k + 1) b.length) = a.length := by omega
 have e2 : max a.length (min k b.length) = a.length := by omega
 rw [e1, e2];by_cases h1 : i < a.length
 ·rw [if_pos h1, if_pos h1];by_cases h2 : i = k
  ·subst h2;simp [pickS, List.getElem?_take, hy, hx, h]
  by_cases h3 : i < k
  ·simp [pickS, List.getElem?_take, h3, show i < k + 1 by omega]
  simp [pickS, List.getElem?_take, h3, show ¬ i < k + 1 by omega]
 rw [if_neg h1, if_neg h1]
theorem mergeL_set {a b : List Sl} {k : Nat} {x : Sl} (hx : a[k]? = some x) (hy : b[k]? = some y) (h : x.1 < y.1) : mergeL a (b.take (k + 1)) = (mergeL a (b.take k)).set k y := by
 have ha : k < a.length := (List.getElem?_eq_some_iff.1 hx).1;have hb : k < b.length := (List.getElem?_eq_some_iff.1 hy).1;apply List.ext_getElem?;intro i;rw [List.getElem?_set, mergeL_at, mergeL_at, mergeL_len];simp only [List.length_take];have e1 : max a.length (min (k + 1) b.length) = a.length := by omega
 have e2 : max a.length (min k b.length) = a.length := by omega
 rw [e1, e2];by_cases h1 : i < a.length
 ·rw [if_pos h1];by_cases h2 : i = k
  ·subst h2;have ht : (b.take (i + 1))[i]? = some y := by rw [List.getElem?_take_of_lt (by omega)]; exact hy
   rw [if_pos rfl, if_pos h1];simp only [pickS, hx, ht, if_pos h]
  rw [if_neg (by omega), if_pos h1];by_cases h3 : i < k
  ·simp [pickS, List.getElem?_take, h3, show i < k + 1 by omega]
  simp [pickS, List.getElem?_take, h3, show ¬ i < k + 1 by omega]
 rw [if_neg h1, if_neg (by omega), if_neg h1]
theorem mergeL_old {a b : List Sl} {k : Nat} {x : Sl} (hx : a[k]? = some x) : (mergeL a (b.take k))[k]? = some x := by
 have ha : k < a.length := (List.getElem?_eq_some_iff.1 hx).1;rw [mergeL_at, if_pos (by omega)];simp [pickS, hx, List.getElem?_take]
theorem mergeL_full (a b : List Sl) {k : Nat} (h : b.length ≤ k) : mergeL a (b.take k) = mergeL a b := by rw [List.take_of_length_le h]
theorem mergeL_good {a b : List Sl} (ha : GoodSlots a) (hb : GoodSlots b) : GoodSlots (mergeL a b) := fun i s hs => by
 rw [mergeL_at] at hs;split at hs
 ·simp only [Option.some.injEq] at hs;unfold pickS at hs;cases hx : a[i]? with
  | some x =>
   cases hy : b[i]? with
   | some y =>
    simp only [hx, hy] at hs;split at hs
    ·subst hs; exact hb i _ hy
    subst hs; exact ha i _ hx
   | none => simp only [hx, hy] at hs; subst hs; exact ha i _ hx
  | none =>
   cases hy : b[i]? with
   | some y => simp only [hx, hy] at hs; subst hs; exact hb i _ hy
   | none =>
    rename_i h;rw [List.getElem?_eq_none_iff] at hx hy;omega
 simp at hs
theorem mergeL_pages (a b : List Sl) (s : Nat) : (mergeL a b).take s ++ mergeL ((a.drop s).take 60) ((b.drop s).take 60) = (mergeL a b).take (s + 60) := by
 apply List.ext_getElem?;intro i;rw [List.getElem?_append, List.getElem?_take, List.getElem?_take, List.length_take, mergeL_len, mergeL_at];by_cases h1 : i < min s (max a.length b.length)
 ·rw [if_pos h1, if_pos (show i < s by omega), if_pos (show i < max a.length b.length by omega), if_pos (show i < s + 60 by omega)]
 rw [if_neg h1, mergeL_at];simp only [List.length_take, List.length_drop];by_cases hs : s ≤ max a.length b.length
 ·rw [show i - min s (max a.length b.length) = i - s by omega];by_cases h2 : i < s + 60
  ·rw [if_pos h2];by_cases h3 : i < max a.length b.length
   ·rw [if_pos (by omega), if_pos h3];simp [pickS, List.getElem?_take, List.getElem?_drop, show i - s < 60 by omega, show s + (i - s) = i by omega]
   rw [if_neg (by omega), if_neg h3]
  rw [if_neg (by omega), if_neg h2]
 rw [if_neg (by omega)];split
 ·rw [if_neg (by omega)]
 rfl
end Go.Proofs.Ytjdceoimignnpaa
