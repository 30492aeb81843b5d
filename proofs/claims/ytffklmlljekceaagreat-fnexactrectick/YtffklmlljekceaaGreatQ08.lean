import Derived.Test.YtffklmlljekceaaGreatQ07
namespace Go.Proofs.YtffklmlljekceaaGreat
open Go.ChangeShapes Go.WideShapes Go.ChangeAt Go.RowKit Go.Deep Go.Joins
set_option linter.unusedSimpArgs false
set_option linter.unusedVariables false
set_option maxHeartbeats 4000000
def sameB (s t : ByteArray) : Bool := s.toList == t.toList
theorem sameB_comm (s t : ByteArray) : sameB s t = sameB t s := by unfold sameB; exact Bool.beq_comm
def wishAtB (l : List ByteArray) (i : Nat) : Bool :=
 inB ((l.getD i ByteArray.empty).size : Int) 1 100 && (List.range i).all fun j => !sameB (l.getD j ByteArray.empty) (l.getD i ByteArray.empty)
def wishesOkB (l : List ByteArray) : Bool := decide (l.length ≤ 20) && (List.range l.length).all (wishAtB l)
theorem wishes_of {l : List ByteArray} {n : Nat} (hn : l.length = n) (hz : n ≤ 20) (h : ∀ i, i < n → wishAtB l i = true) : wishesOkB l = true := by
 unfold wishesOkB
 rw [hn, decide_eq_true hz, Bool.true_and, List.all_eq_true]
 intro i hi
 exact h i (List.mem_range.1 hi)
theorem not_wishes_of {l : List ByteArray} {k : Nat} (hk : k < l.length) (h : wishAtB l k = false) : wishesOkB l = false := by
 unfold wishesOkB
 rw [show (List.range l.length).all (wishAtB l) = false from by rw [List.all_eq_false]; exact ⟨k, List.mem_range.2 hk, by simp [h]⟩, Bool.and_false]
theorem not_wishes_len {l : List ByteArray} {n : Nat} (hn : l.length = n) (hz : ¬ n ≤ 20) : wishesOkB l = false := by
 unfold wishesOkB
 rw [hn, decide_eq_false hz, Bool.false_and]
theorem wishAt_yes {l : List ByteArray} {k : Nat} {t : ByteArray} (hs : l[k]? = some t) (g : inB (t.size : Int) 1 100 = true) (h : ∀ (j : Nat) u, j < k → l[j]? = some u → sameB u t = false) : wishAtB l k = true := by
 have hk : k < l.length := (List.getElem?_eq_some_iff.1 hs).1
 unfold wishAtB
 rw [show l.getD k ByteArray.empty = t by simp [List.getD, hs], g, Bool.true_and, List.all_eq_true]
 intro j hj
 have hj' := List.mem_range.1 hj
 have hu : l[j]? = some (l[j]'(by omega)) := List.getElem?_eq_getElem (by omega)
 rw [show l.getD j ByteArray.empty = l[j]'(by omega) by simp [List.getD, hu], h j _ hj' hu]
 rfl
theorem wishAt_size {l : List ByteArray} {k : Nat} {t : ByteArray} (hs : l[k]? = some t) (g : inB (t.size : Int) 1 100 = false) : wishAtB l k = false := by
 unfold wishAtB
 rw [show l.getD k ByteArray.empty = t by simp [List.getD, hs], g, Bool.false_and]
theorem wishAt_dup {l : List ByteArray} {k j : Nat} {t u : ByteArray} (hs : l[k]? = some t) (hj : j < k) (hu : l[j]? = some u) (h : sameB u t = true) : wishAtB l k = false := by
 unfold wishAtB
 rw [show l.getD k ByteArray.empty = t by simp [List.getD, hs]]
 rw [show ((List.range k).all fun j => !sameB (l.getD j ByteArray.empty) t) = false from by
  rw [List.all_eq_false]
  exact ⟨j, List.mem_range.2 hj, by rw [show l.getD j ByteArray.empty = u by simp [List.getD, hu], h]; simp⟩, Bool.and_false]
theorem specWishesOk (a : Option Addr) (l : List ByteArray) (n cap : Nat) (w : World) (hn : l.length = n) (hc : n ≤ maxLen) (h : StrsAt w a l) :
  Calls Tryz.prog 72 #[.slice a n cap] w fun e w' => e = .returned (.bool (wishesOkB l)) ∧ Below w.heap.size w w' := by
 unfold maxLen at hc
 have HL : Hid (l.length = n) := hn
 clear hn
 by_cases hz : n ≤ 20
 ·go_enter Tryz.func72, Tryz.ntmps72
  go_wp2
  go_loopw [3] (fun i wr => ∃ (k : Nat), k ≤ n ∧ i = .int .i64 k ∧ (∀ j, j < k → wishAtB l j = true) ∧ Below w.heap.size w wr) (fun i _ => n - (intOf i).toNat)
  case atStart => exact ⟨0, Nat.zero_le _, rfl, fun j hj => absurd hj (by omega), Below.refl _ _⟩
  obtain ⟨k, hk, rfl, hall0, hbel⟩ := hrel
  have hall : Hid (∀ j, j < k → wishAtB l j = true) := hall0
  clear hall0
  by_cases hlt : k < n
  ·obtain ⟨t, hs0⟩ : ∃ s, l[k]? = some s := ⟨_, List.getElem?_eq_getElem (by rw [HL.out]; exact hlt)⟩
   have hs : Hid (l[k]? = some t) := hs0
   have hA := h.ext hbel
   obtain ⟨b, off, rfl, hb, c0, ht⟩ := hA k t hs0
   unfold okS maxLen at ht
   clear hs0
   have e1 : (0 : Int) ≤ (k : Int) := by omega
   have e2 : (k : Int) < (n : Int) := by omega
   have hkl : Hid (k < l.length) := by unfold Hid; rw [HL.out]; exact hlt
   by_cases t1 : (t.size : Int) < 1
   ·have HG : Hid (inB (t.size : Int) 1 100 = false) := inB_low (by omega)
    have t2 : decide ((t.size : Int) < 1) = true := decide_eq_true t1
    go_wp2
    go_ret
    exact ⟨by rw [not_wishes_of hkl.out (wishAt_size hs.out HG.out)]; rfl, hbel⟩
   by_cases t3 : (100 : Int) < (t.size : Int)
   ·have HG : Hid (inB (t.size : Int) 1 100 = false) := inB_high (by omega)
    go_wp2
    go_ret
    exact ⟨by rw [not_wishes_of hkl.out (wishAt_size hs.out HG.out)]; rfl, hbel⟩
   have HG : Hid (inB (t.size : Int) 1 100 = true) := inB_yes (by omega) (by omega)
   have t2 : decide ((t.size : Int) < 1) = false := decide_eq_false t1
   have t4 : decide ((100 : Int) < (t.size : Int)) = false := decide_eq_false t3
   go_wp2
   go_loopw [4] (fun i ws => ∃ (j : Nat), j ≤ k ∧ i = .int .i64 j ∧ (∀ (q : Nat) u, q < j → l[q]? = some u → sameB u t = false) ∧ Below wr.heap.size wr ws) (fun i _ => k - (intOf i).toNat)
   case atStart => exact ⟨0, Nat.zero_le _, rfl, fun q u hq => absurd hq (by omega), Below.refl _ _⟩
   obtain ⟨j, hj, rfl, hin0, hbi⟩ := hrel
   have hin : Hid (∀ (q : Nat) u, q < j → l[q]? = some u → sameB u t = false) := hin0
   clear hin0
   have hI := hA.ext hbi
   by_cases hjk : j < k
   ·obtain ⟨u, hu0⟩ : ∃ s, l[j]? = some s := ⟨_, List.getElem?_eq_getElem (by rw [HL.out]; omega)⟩
    have hu : Hid (l[j]? = some u) := hu0
    obtain ⟨b1, off1, ea, hb1, d0, _⟩ := hI j u hu0
    obtain ⟨b2, off2, eb, hb2, d1, _⟩ := hI k t hs.out
    simp only [Option.some.injEq, Addr.mk.injEq, and_true] at ea eb
    obtain ⟨rfl, rfl⟩ := ea
    obtain ⟨rfl, rfl⟩ := eb
    clear hu0 hI
    have f1 : (0 : Int) ≤ (j : Int) := by omega
    have f2 : (j : Int) < (n : Int) := by omega
    cases hq : sameB u t
    ·have hq' : (u.toList == t.toList) = false := hq
     have HQ : Hid (sameB u t = false) := hq
     clear hq
     go_wp2
     go_quiet (fail)
     go_wp2
     go_roundw
     case rel =>
      refine ⟨j + 1, by omega, by go_num, fun q v hq hv => ?_, below_drewN hbi _⟩
      by_cases he : q = j
      ·subst he; rw [hu.out] at hv; simp only [Option.some.injEq] at hv; rw [← hv]; exact HQ.out
      exact hin.out q v (by omega) hv
     case measure => simp [intOf]; omega
    have hq' : (u.toList == t.toList) = true := hq
    have HQ : Hid (sameB u t = true) := hq
    clear hq
    go_wp2
    go_quiet (fail)
    go_wp2
    go_ret
    exact ⟨by rw [not_wishes_of hkl.out (wishAt_dup hs.out hjk hu.out HQ.out)]; rfl, ext_trans hbel (below_drewN hbi _)⟩
   go_wp2
   go_roundw
   case rel =>
    refine ⟨k + 1, by omega, by go_num, fun q hq => ?_, ext_trans hbel hbi⟩
    by_cases he : q = k
    ·rw [he]; exact wishAt_yes hs.out HG.out (fun q u hq hu => hin.out q u (by omega) hu)
    exact hall.out q (by omega)
   case measure => simp [intOf]; omega
  go_wp2
  go_ret
  exact ⟨by rw [wishes_of HL.out hz (fun i hi => hall.out i (by omega))]; rfl, hbel⟩
 have HN : Hid (¬ n ≤ 20) := hz
 go_enter Tryz.func72, Tryz.ntmps72
 go_wp2
 go_ret
 exact ⟨by rw [not_wishes_len HL.out HN.out]; rfl, Below.refl _ _⟩
theorem StrsAt.take {w : World} {a : Option Addr} {l : List ByteArray} (h : StrsAt w a l) (k : Nat) : StrsAt w a (l.take k) := fun i s hs => h i s (by
 have hi := (List.getElem?_eq_some_iff.1 hs).1
 simp only [List.length_take] at hi
 rw [List.getElem?_take_of_lt (by omega)] at hs
 exact hs)
def hasB (l : List ByteArray) (t : ByteArray) : Bool := l.any fun u => sameB t u
theorem index_any (a : Option Addr) (l : List ByteArray) (n cap : Nat) (t : ByteArray) (w : World) (hn : l.length = n) (hc : n ≤ maxLen) (h : StrsAt w a l) :
  Calls Tryz.prog 149 #[.slice a n cap, .string t] w fun e w' => ∃ r : Int, e = .returned (.int .i64 r) ∧ decide (0 ≤ r) = hasB l t ∧ w' = w := by
 unfold maxLen at hc
 have HL : Hid (l.length = n) := hn
 clear hn
 go_enter Tryz.func149, Tryz.ntmps149
 go_wp2
 go_loop [8] (fun i => ∃ (k : Nat), k ≤ n ∧ i = .int .i64 k ∧ (∀ (q : Nat) u, q < k → l[q]? = some u → sameB t u = false)) (fun i => n - (intOf i).toNat)
 case atStart => exact ⟨0, Nat.zero_le _, rfl, fun q u hq => absurd hq (by omega)⟩
 obtain ⟨k, hk, rfl, hin0⟩ := hrel
 have hin : Hid (∀ (q : Nat) u, q < k → l[q]? = some u → sameB t u = false) := hin0
 clear hin0
 by_cases hlt : k < n
 ·obtain ⟨u, hs0⟩ : ∃ s, l[k]? = some s := ⟨_, List.getElem?_eq_getElem (by rw [HL.out]; exact hlt)⟩
  have hs : Hid (l[k]? = some u) := hs0
  obtain ⟨b, off, rfl, hb, c0, _⟩ := h k u hs0
  clear hs0
  have e1 : (0 : Int) ≤ (k : Int) := by omega
  have e2 : (k : Int) < (n : Int) := by omega
  cases hq : sameB t u
  ·have hq' : (t.toList == u.toList) = false := hq
   have HQ : Hid (sameB t u = false) := hq
   clear hq
   go_wp2
   go_round
   case rel =>
    refine ⟨k + 1, by omega, by go_num, fun q v hq hv => ?_⟩
    by_cases he : q = k
    ·subst he; rw [hs.out] at hv; simp only [Option.some.injEq] at hv; rw [← hv]; exact HQ.out
    exact hin.out q v (by omega) hv
   case measure => simp [intOf]; omega
  have hq' : (t.toList == u.toList) = true := hq
  have HQ : Hid (sameB t u = true) := hq
  clear hq
  go_wp2
  go_ret
  refine ⟨k, rfl, ?_, rfl⟩
  rw [decide_eq_true e1]
  exact (List.any_eq_true.2 ⟨u, List.mem_of_getElem? hs.out, HQ.out⟩).symm
 go_wp2
 go_ret
 refine ⟨-1, rfl, ?_, rfl⟩
 have : hasB l t = false := by
  unfold hasB
  rw [List.any_eq_false]
  intro u hu
  obtain ⟨i, hi, rfl⟩ := List.getElem_of_mem hu
  rw [hin.out i _ (by have := HL.out; omega) (List.getElem?_eq_getElem hi)]
  simp
 rw [this]
 rfl
theorem contains_any (a : Option Addr) (l : List ByteArray) (n cap : Nat) (t : ByteArray) (w : World) (hn : l.length = n) (hc : n ≤ maxLen) (h : StrsAt w a l) :
  Calls Tryz.prog 126 #[.slice a n cap, .string t] w fun e w' => e = .returned (.bool (hasB l t)) ∧ w' = w := by
 have HL : Hid (l.length = n) := hn
 clear hn
 go_enter Tryz.func126, Tryz.ntmps126
 go_wp2_with (go_at_call 149; refine (index_any a l n cap t _ HL.out hc h).mono ?_; rintro e w' ⟨r, rfl, hr, rfl⟩)
 go_ret
 exact ⟨rfl, rfl⟩
theorem wishAt_has {l : List ByteArray} {k : Nat} {t : ByteArray} (hs : l[k]? = some t) (g : inB (t.size : Int) 1 100 = true) : wishAtB l k = !hasB (l.take k) t := by
 have hk : k < l.length := (List.getElem?_eq_some_iff.1 hs).1
 cases hh : hasB (l.take k) t
 ·refine wishAt_yes hs g (fun j u hj hu => ?_)
  unfold hasB at hh
  rw [List.any_eq_false] at hh
  have := hh u (List.mem_of_getElem? (i := j) (by rw [List.getElem?_take_of_lt hj]; exact hu))
  rw [sameB_comm]
  simpa using this
 unfold hasB at hh
 obtain ⟨u, hu, hq⟩ := List.any_eq_true.1 hh
 obtain ⟨j, hj, rfl⟩ := List.getElem_of_mem hu
 simp only [List.length_take] at hj
 rw [List.getElem_take] at hq
 exact wishAt_dup hs (show j < k by omega) (List.getElem?_eq_getElem (by omega)) (by rw [sameB_comm]; exact hq)
theorem implWishesOk (a : Option Addr) (l : List ByteArray) (n cap : Nat) (w : World) (hn : l.length = n) (hnc : n ≤ cap) (hc : n ≤ maxLen) (h : StrsAt w a l) :
  Calls Tryz.prog 88 #[.slice a n cap] w fun e w' => e = .returned (.bool (wishesOkB l)) ∧ Below w.heap.size w w' := by
 unfold maxLen at hc
 have HL : Hid (l.length = n) := hn
 clear hn
 by_cases hz : n ≤ 20
 ·go_enter Tryz.func88, Tryz.ntmps88
  go_wp2
  go_loopw [10] (fun i wr => ∃ (k : Nat), k ≤ n ∧ i = .int .i64 k ∧ (∀ j, j < k → wishAtB l j = true) ∧ Below w.heap.size w wr) (fun i _ => n - (intOf i).toNat)
  case atStart => exact ⟨0, Nat.zero_le _, rfl, fun j hj => absurd hj (by omega), Below.refl _ _⟩
  obtain ⟨k, hk, rfl, hall0, hbel⟩ := hrel
  have hall : Hid (∀ j, j < k → wishAtB l j = true) := hall0
  clear hall0
  by_cases hlt : k < n
  ·obtain ⟨t, hs0⟩ : ∃ s, l[k]? = some s := ⟨_, List.getElem?_eq_getElem (by rw [HL.out]; exact hlt)⟩
   have hs : Hid (l[k]? = some t) := hs0
   have hA := h.ext hbel
   obtain ⟨b, off, rfl, hb, c0, ht⟩ := hA k t hs0
   unfold okS maxLen at ht
   clear hs0
   have e1 : (0 : Int) ≤ (k : Int) := by omega
   have e2 : (k : Int) < (n : Int) := by omega
   have e3 : (k : Int) ≤ (cap : Int) := by omega
   have hkl : Hid (k < l.length) := by unfold Hid; rw [HL.out]; exact hlt
   have HTK : Hid ((l.take k).length = k) := by unfold Hid; rw [List.length_take]; have := HL.out; omega
   cases g : inB (t.size : Int) 1 100
   ·go_wp2_with (go_at_call 89; refine (within_any _ _ _ _).mono ?_; rintro e w' ⟨rfl, rfl⟩)
    go_ret
    exact ⟨by rw [not_wishes_of hkl.out (wishAt_size hs.out g)]; rfl, hbel⟩
   have HW : Hid (wishAtB l k = !hasB (l.take k) t) := wishAt_has hs.out g
   have HKM : Hid (k ≤ maxLen) := by unfold Hid maxLen; omega
   cases hh : hasB (l.take k) t
   ·go_wp2_with (first
      | (go_at_call 89; refine (within_any _ _ _ _).mono ?_; rintro e w' ⟨rfl, rfl⟩)
      | (go_at_call 126; refine (contains_any _ (l.take k) k cap t _ HTK.out HKM.out (by exact StrsAt.take hA k)).mono ?_; rintro e w' ⟨rfl, rfl⟩))
    go_roundw
    case rel =>
     refine ⟨k + 1, by omega, by go_num, fun q hq => ?_, by assumption⟩
     by_cases he : q = k
     ·rw [he, HW.out, hh]; rfl
     exact hall.out q (by omega)
    case measure => simp [intOf]; omega
   go_wp2_with (first
     | (go_at_call 89; refine (within_any _ _ _ _).mono ?_; rintro e w' ⟨rfl, rfl⟩)
     | (go_at_call 126; refine (contains_any _ (l.take k) k cap t _ HTK.out HKM.out (by exact StrsAt.take hA k)).mono ?_; rintro e w' ⟨rfl, rfl⟩))
   go_ret
   exact ⟨by rw [not_wishes_of hkl.out (by rw [HW.out, hh]; rfl)]; rfl, by assumption⟩
  go_wp2
  go_ret
  exact ⟨by rw [wishes_of HL.out hz (fun i hi => hall.out i (by omega))]; rfl, hbel⟩
 have HN : Hid (¬ n ≤ 20) := hz
 go_enter Tryz.func88, Tryz.ntmps88
 go_wp2
 go_ret
 exact ⟨by rw [not_wishes_len HL.out HN.out]; rfl, Below.refl _ _⟩
end Go.Proofs.YtffklmlljekceaaGreat
namespace Go.Proofs.YtffklmlljekceaaGreat
open Go.ChangeShapes Go.WideShapes Go.ChangeAt Go.RowKit
set_option linter.unusedSimpArgs false
set_option linter.unusedVariables false
set_option maxHeartbeats 4000000
def placeOkB (p k : Int) (i : Nat) (s : Sl) : Bool := !decide (p < s.1) && !(decide ((i : Int) < k) && decide (s.1 = 0))
def placesOkB (p k : Int) (l : List Sl) : Bool := l.zipIdx.all fun x => placeOkB p k x.2 x.1
def diskOkB (p k : Int) (l : List Sl) : Bool := inB p 0 1000000 && slotsOkB l && inB k 0 l.length && placesOkB p k l
theorem places_of {p k : Int} {l : List Sl} {n : Nat} (hn : l.length = n) (h : ∀ (i : Nat) s, i < n → l[i]? = some s → placeOkB p k i s = true) : placesOkB p k l = true := by
 unfold placesOkB
 rw [List.all_eq_true]
 intro x hx
 obtain ⟨i, hi, rfl⟩ := List.getElem_of_mem hx
 simp only [List.length_zipIdx] at hi
 simp only [List.getElem_zipIdx, Nat.zero_add]
 exact h i _ (by omega) (List.getElem?_eq_getElem hi)
theorem not_places_of {p k : Int} {l : List Sl} {j : Nat} {s : Sl} (hs : l[j]? = some s) (h : placeOkB p k j s = false) : placesOkB p k l = false := by
 unfold placesOkB
 rw [List.all_eq_false]
 refine ⟨(s, j), ?_, by simp [h]⟩
 have : l.zipIdx[j]? = some (s, j) := by simp [List.getElem?_zipIdx, hs]
 exact List.mem_of_getElem? this
theorem place_cases (p k : Int) (i : Nat) (b : Int) (t : ByteArray) :
  (p < b ∧ placeOkB p k i (b, t) = false) ∨ (¬ p < b ∧ ¬ (i : Int) < k ∧ placeOkB p k i (b, t) = true) ∨ (¬ p < b ∧ (i : Int) < k ∧ b = 0 ∧ placeOkB p k i (b, t) = false) ∨
  (¬ p < b ∧ (i : Int) < k ∧ ¬ b = 0 ∧ placeOkB p k i (b, t) = true) := by
 by_cases h1 : p < b
 ·exact .inl ⟨h1, by simp [placeOkB, h1]⟩
 by_cases h2 : (i : Int) < k
 ·by_cases h3 : b = 0
  ·exact .inr (.inr (.inl ⟨h1, h2, h3, by simp [placeOkB, h2, h3]⟩))
  exact .inr (.inr (.inr ⟨h1, h2, h3, by simp [placeOkB, h1, h3]⟩))
 exact .inr (.inl ⟨h1, h2, by simp [placeOkB, h1, h2]⟩)
theorem specDiskOk_no (p q : Int) (a : Option Addr) (l : List Sl) (n cap : Nat) (w : World) (hn : l.length = n) (hc : n ≤ maxLen) (h : SlotsAt w a l) (hno : (inB p 0 1000000 && slotsOkB l && inB q 0 n) = false) :
  Calls Tryz.prog 71 #[.agg #[.int .i64 p, .int .i64 q, .slice a n cap]] w fun e w' => e = .returned (.bool false) ∧ Below w.heap.size w w' := by
 have HL : Hid (l.length = n) := hn
 clear hn
 have hB : Below w.heap.size w (w.alloc (.cells #[.int .i64 p, .int .i64 q, .slice a n cap] 37)) := ext_alloc (Below.refl _ _) _
 have hA := h.ext hB
 have H0 : Hid ((inB p 0 1000000 && slotsOkB l && inB q 0 n) = false) := hno
 clear hno
 cases g1 : inB p 0 1000000
 ·go_enter Tryz.func71, Tryz.ntmps71
  go_wp2_with (go_at_call 70; refine (l1In_any _ _ _ _).mono ?_; rintro e w' ⟨rfl, rfl⟩)
  go_ret
  exact ⟨rfl, hB⟩
 cases g2 : slotsOkB l
 ·go_enter Tryz.func71, Tryz.ntmps71
  go_wp2_with (first
   | (go_at_call 70; refine (l1In_any _ _ _ _).mono ?_; rintro e w' ⟨rfl, rfl⟩)
   | (go_at_call 74; refine (specSlotsOk a l n cap _ HL.out hc hA).mono ?_; rintro e w' ⟨rfl, rfl⟩))
  go_ret
  exact ⟨rfl, hB⟩
 have g3 : inB q 0 n = false := by have := H0.out; simpa [g1, g2] using this
 go_enter Tryz.func71, Tryz.ntmps71
 go_wp2_with (first
  | (go_at_call 70; refine (l1In_any _ _ _ _).mono ?_; rintro e w' ⟨rfl, rfl⟩)
  | (go_at_call 74; refine (specSlotsOk a l n cap _ HL.out hc hA).mono ?_; rintro e w' ⟨rfl, rfl⟩))
 go_ret
 exact ⟨rfl, hB⟩
theorem specDiskOk_yes (p q : Int) (a : Option Addr) (l : List Sl) (n cap : Nat) (w : World) (hn : l.length = n) (hc : n ≤ maxLen) (h : SlotsAt w a l) (g1 : inB p 0 1000000 = true) (g2 : slotsOkB l = true) (g3 : inB q 0 n = true) :
  Calls Tryz.prog 71 #[.agg #[.int .i64 p, .int .i64 q, .slice a n cap]] w fun e w' => e = .returned (.bool (placesOkB p q l)) ∧ Below w.heap.size w w' := by
 unfold maxLen at hc
 have HL : Hid (l.length = n) := hn
 clear hn
 have hB : Below w.heap.size w (w.alloc (.cells #[.int .i64 p, .int .i64 q, .slice a n cap] 37)) := ext_alloc (Below.refl _ _) _
 have hA := h.ext hB
 clear h
 have hb0 := Blk.new w #[.int .i64 p, .int .i64 q, .slice a n cap] 37
 obtain ⟨W, hW⟩ : ∃ W, W = w.alloc (.cells #[.int .i64 p, .int .i64 q, .slice a n cap] 37) := ⟨_, rfl⟩
 go_enter Tryz.func71, Tryz.ntmps71
 go_wp2_with (first
  | (go_at_call 70; refine (l1In_any _ _ _ _).mono ?_; rintro e w' ⟨rfl, rfl⟩)
  | (go_at_call 74; refine (specSlotsOk a l n cap _ HL.out hc hA).mono ?_; rintro e w' ⟨rfl, rfl⟩))
 rw [← hW] at hA hB hb0 ⊢
 clear hW
 go_loopw [3] (fun i wr => ∃ (k : Nat), k ≤ n ∧ i = .int .i64 k ∧ (∀ (i : Nat) s, i < k → l[i]? = some s → placeOkB p q i s = true) ∧ Below W.heap.size W wr) (fun i _ => n - (intOf i).toNat)
 case atStart => exact ⟨0, Nat.zero_le _, rfl, fun i s hi => absurd hi (by omega), Below.refl _ _⟩
 obtain ⟨k, hk, rfl, hall0, hbel⟩ := hrel
 have hall : Hid (∀ (i : Nat) s, i < k → l[i]? = some s → placeOkB p q i s = true) := hall0
 clear hall0
 have hbk := hb0.ext hbel
 have cb := hbk.cell
 have hbl := hbk.lt
 by_cases hlt : k < n
 ·obtain ⟨s, hs0⟩ : ∃ s, l[k]? = some s := ⟨_, List.getElem?_eq_getElem (by rw [HL.out]; exact hlt)⟩
  obtain ⟨b, off, rfl, hb, c0, c1, ht, _⟩ := (hA.ext hbel) k s hs0
  have hs : Hid (l[k]? = some s) := hs0
  clear hs0
  obtain ⟨sb, st⟩ := s
  simp only at c0 c1 ht
  have e1 : (0 : Int) ≤ (k : Int) := by omega
  have e2 : (k : Int) < (n : Int) := by omega
  rcases place_cases p q k sb st with ⟨t1, hok⟩ | ⟨t1, t2, hok⟩ | ⟨t1, t2, t3, hok⟩ | ⟨t1, t2, t3, hok⟩
  ·have HK : Hid (placeOkB p q k (sb, st) = false) := hok
   clear hok
   have u1 : decide (p < sb) = true := decide_eq_true t1
   go_wp2
   go_quiet (fail)
   go_wp2
   go_ret
   exact ⟨by rw [not_places_of hs.out HK.out]; rfl, ext_trans hB (below_drewN hbel _)⟩
  ·have HK : Hid (placeOkB p q k (sb, st) = true) := hok
   clear hok
   have u1 : decide (p < sb) = false := decide_eq_false t1
   have u2 : decide ((k : Int) < q) = false := decide_eq_false t2
   go_wp2
   go_quiet (fail)
   go_wp2
   go_roundw
   case rel =>
    refine ⟨k + 1, by omega, by go_num, fun i u hi hu => ?_, below_drewN hbel _⟩
    by_cases he : i = k
    ·subst he; rw [hs.out] at hu; simp only [Option.some.injEq] at hu; rw [← hu]; exact HK.out
    exact hall.out i u (by omega) hu
   case measure => simp [intOf]; omega
  ·have HK : Hid (placeOkB p q k (sb, st) = false) := hok
   clear hok
   subst t3
   have u1 : decide (p < 0) = false := decide_eq_false t1
   have u2 : decide ((k : Int) < q) = true := decide_eq_true t2
   go_wp2
   go_quiet (fail)
   go_wp2
   go_ret
   exact ⟨by rw [not_places_of hs.out HK.out]; rfl, ext_trans hB (below_drewN hbel _)⟩
  have HK : Hid (placeOkB p q k (sb, st) = true) := hok
  clear hok
  have u1 : decide (p < sb) = false := decide_eq_false t1
  have u2 : decide ((k : Int) < q) = true := decide_eq_true t2
  have u3 : (sb == 0) = false := beq_eq_false_iff_ne.2 t3
  go_wp2
  go_quiet (fail)
  go_wp2
  go_roundw
  case rel =>
   refine ⟨k + 1, by omega, by go_num, fun i u hi hu => ?_, below_drewN hbel _⟩
   by_cases he : i = k
   ·subst he; rw [hs.out] at hu; simp only [Option.some.injEq] at hu; rw [← hu]; exact HK.out
   exact hall.out i u (by omega) hu
  case measure => simp [intOf]; omega
 go_wp2
 go_ret
 exact ⟨by rw [places_of HL.out (fun i s hi hs => hall.out i s (by omega) hs)]; rfl, ext_trans hB hbel⟩
theorem implDiskOk_no (p q : Int) (a : Option Addr) (l : List Sl) (n cap : Nat) (w : World) (hn : l.length = n) (hc : n ≤ maxLen) (h : SlotsAt w a l) (hno : (inB p 0 1000000 && slotsOkB l && inB q 0 n) = false) :
  Calls Tryz.prog 86 #[.agg #[.int .i64 p, .int .i64 q, .slice a n cap]] w fun e w' => e = .returned (.bool false) ∧ Below w.heap.size w w' := by
 have HL : Hid (l.length = n) := hn
 clear hn
 have hB : Below w.heap.size w (w.alloc (.cells #[.int .i64 p, .int .i64 q, .slice a n cap] 37)) := ext_alloc (Below.refl _ _) _
 have hA := h.ext hB
 have hb0 := Blk.new w #[.int .i64 p, .int .i64 q, .slice a n cap] 37
 have H0 : Hid ((inB p 0 1000000 && slotsOkB l && inB q 0 n) = false) := hno
 clear hno
 cases g1 : inB p 0 1000000
 ·go_enter Tryz.func86, Tryz.ntmps86
  go_wp2_with (go_at_call 89; refine (within_any _ _ _ _).mono ?_; rintro e w' ⟨rfl, rfl⟩)
  go_ret
  exact ⟨rfl, hB⟩
 cases g2 : slotsOkB l
 ·go_enter Tryz.func86, Tryz.ntmps86
  go_wp2_with (first
   | (go_at_call 89; refine (within_any _ _ _ _).mono ?_; rintro e w' ⟨rfl, rfl⟩)
   | (go_at_call 91; refine (implSlotsOk a l n cap _ HL.out hc hA).mono ?_; rintro e w2 ⟨rfl, hb2⟩; have hb9 := hb0.ext hb2; have cb9 := hb9.cell))
  go_ret
  exact ⟨rfl, ext_trans hB hb2⟩
 have g3 : inB q 0 n = false := by have := H0.out; simpa [g1, g2] using this
 go_enter Tryz.func86, Tryz.ntmps86
 go_wp2_with (first
  | (go_at_call 89; refine (within_any _ _ _ _).mono ?_; rintro e w' ⟨rfl, rfl⟩)
  | (go_at_call 91; refine (implSlotsOk a l n cap _ HL.out hc hA).mono ?_; rintro e w2 ⟨rfl, hb2⟩; have hb9 := hb0.ext hb2; have cb9 := hb9.cell))
 go_ret
 exact ⟨rfl, ext_trans hB hb2⟩
theorem implDiskOk_yes (p q : Int) (a : Option Addr) (l : List Sl) (n cap : Nat) (w : World) (hn : l.length = n) (hc : n ≤ maxLen) (h : SlotsAt w a l) (g1 : inB p 0 1000000 = true) (g2 : slotsOkB l = true) (g3 : inB q 0 n = true) :
  Calls Tryz.prog 86 #[.agg #[.int .i64 p, .int .i64 q, .slice a n cap]] w fun e w' => e = .returned (.bool (placesOkB p q l)) ∧ Below w.heap.size w w' := by
 unfold maxLen at hc
 have HL : Hid (l.length = n) := hn
 clear hn
 have hB : Below w.heap.size w (w.alloc (.cells #[.int .i64 p, .int .i64 q, .slice a n cap] 37)) := ext_alloc (Below.refl _ _) _
 have hA := h.ext hB
 clear h
 have hb0 := Blk.new w #[.int .i64 p, .int .i64 q, .slice a n cap] 37
 go_enter Tryz.func86, Tryz.ntmps86
 go_wp2_with (first
  | (go_at_call 89; refine (within_any _ _ _ _).mono ?_; rintro e w' ⟨rfl, rfl⟩)
  | (go_at_call 91; refine (implSlotsOk a l n cap _ HL.out hc hA).mono ?_; rintro e w2 ⟨rfl, hb2⟩; have hb9 := hb0.ext hb2; have cb9 := hb9.cell))
 have hA2 := hA.ext hb2
 have hB2 := ext_trans hB hb2
 clear hA hB hb0 hb2 cb9
 go_loopw [27] (fun i wr => ∃ (k : Nat), k ≤ n ∧ i = .int .i64 k ∧ (∀ (i : Nat) s, i < k → l[i]? = some s → placeOkB p q i s = true) ∧ Below w'.heap.size w' wr) (fun i _ => n - (intOf i).toNat)
 case atStart => exact ⟨0, Nat.zero_le _, rfl, fun i s hi => absurd hi (by omega), Below.refl _ _⟩
 obtain ⟨k, hk, rfl, hall0, hbel⟩ := hrel
 have hall : Hid (∀ (i : Nat) s, i < k → l[i]? = some s → placeOkB p q i s = true) := hall0
 clear hall0
 have hbk := hb9.ext hbel
 have cb := hbk.cell
 have hbl := hbk.lt
 by_cases hlt : k < n
 ·obtain ⟨s, hs0⟩ : ∃ s, l[k]? = some s := ⟨_, List.getElem?_eq_getElem (by rw [HL.out]; exact hlt)⟩
  obtain ⟨b, off, rfl, hb, c0, c1, ht, _⟩ := (hA2.ext hbel) k s hs0
  have hs : Hid (l[k]? = some s) := hs0
  clear hs0
  obtain ⟨sb, st⟩ := s
  simp only at c0 c1 ht
  have e1 : (0 : Int) ≤ (k : Int) := by omega
  have e2 : (k : Int) < (n : Int) := by omega
  rcases place_cases p q k sb st with ⟨t1, hok⟩ | ⟨t1, t2, hok⟩ | ⟨t1, t2, t3, hok⟩ | ⟨t1, t2, t3, hok⟩
  ·have HK : Hid (placeOkB p q k (sb, st) = false) := hok
   clear hok
   have u1 : decide (p < sb) = true := decide_eq_true t1
   go_wp2
   go_ret
   exact ⟨by rw [not_places_of hs.out HK.out]; rfl, ext_trans hB2 (ext_alloc hbel _)⟩
  ·have HK : Hid (placeOkB p q k (sb, st) = true) := hok
   clear hok
   have u1 : decide (p < sb) = false := decide_eq_false t1
   have u2 : decide ((k : Int) < q) = false := decide_eq_false t2
   go_wp2
   go_roundw
   case rel =>
    refine ⟨k + 1, by omega, by go_num, fun i u hi hu => ?_, ext_alloc hbel _⟩
    by_cases he : i = k
    ·subst he; rw [hs.out] at hu; simp only [Option.some.injEq] at hu; rw [← hu]; exact HK.out
    exact hall.out i u (by omega) hu
   case measure => simp [intOf]; omega
  ·have HK : Hid (placeOkB p q k (sb, st) = false) := hok
   clear hok
   subst t3
   have u1 : decide (p < 0) = false := decide_eq_false t1
   have u2 : decide ((k : Int) < q) = true := decide_eq_true t2
   go_wp2
   go_ret
   exact ⟨by rw [not_places_of hs.out HK.out]; rfl, ext_trans hB2 (ext_alloc hbel _)⟩
  have HK : Hid (placeOkB p q k (sb, st) = true) := hok
  clear hok
  have u1 : decide (p < sb) = false := decide_eq_false t1
  have u2 : decide ((k : Int) < q) = true := decide_eq_true t2
  have u3 : (sb == 0) = false := beq_eq_false_iff_ne.2 t3
  go_wp2
  go_roundw
  case rel =>
   refine ⟨k + 1, by omega, by go_num, fun i u hi hu => ?_, ext_alloc hbel _⟩
   by_cases he : i = k
   ·subst he; rw [hs.out] at hu; simp only [Option.some.injEq] at hu; rw [← hu]; exact HK.out
   exact hall.out i u (by omega) hu
  case measure => simp [intOf]; omega
 go_wp2
 go_ret
 exact ⟨by rw [places_of HL.out (fun i s hi hs => hall.out i s (by omega) hs)]; rfl, ext_trans hB2 hbel⟩
theorem specDiskOk_any (p q : Int) (a : Option Addr) (l : List Sl) (n cap : Nat) (w : World) (hn : l.length = n) (hc : n ≤ maxLen) (h : SlotsAt w a l) :
  Calls Tryz.prog 71 #[.agg #[.int .i64 p, .int .i64 q, .slice a n cap]] w fun e w' => e = .returned (.bool (diskOkB p q l)) ∧ Below w.heap.size w w' := by
 cases hno : (inB p 0 1000000 && slotsOkB l && inB q 0 n)
 ·have e : diskOkB p q l = false := by unfold diskOkB; rw [hn, hno]; rfl
  rw [e]
  exact specDiskOk_no p q a l n cap w hn hc h hno
 have e : diskOkB p q l = placesOkB p q l := by unfold diskOkB; rw [hn, hno]; rfl
 rw [e]
 simp only [Bool.and_eq_true] at hno
 exact specDiskOk_yes p q a l n cap w hn hc h hno.1.1 hno.1.2 hno.2
theorem implDiskOk_any (p q : Int) (a : Option Addr) (l : List Sl) (n cap : Nat) (w : World) (hn : l.length = n) (hc : n ≤ maxLen) (h : SlotsAt w a l) :
  Calls Tryz.prog 86 #[.agg #[.int .i64 p, .int .i64 q, .slice a n cap]] w fun e w' => e = .returned (.bool (diskOkB p q l)) ∧ Below w.heap.size w w' := by
 cases hno : (inB p 0 1000000 && slotsOkB l && inB q 0 n)
 ·have e : diskOkB p q l = false := by unfold diskOkB; rw [hn, hno]; rfl
  rw [e]
  exact implDiskOk_no p q a l n cap w hn hc h hno
 have e : diskOkB p q l = placesOkB p q l := by unfold diskOkB; rw [hn, hno]; rfl
 rw [e]
 simp only [Bool.and_eq_true] at hno
 exact implDiskOk_yes p q a l n cap w hn hc h hno.1.1 hno.1.2 hno.2
end Go.Proofs.YtffklmlljekceaaGreat
