/-
  Ascending numbers: spec.l2Numbers, impl.numbersOk.
-/
import Derived.Test.YtffklmlljekceaaGreatRec
import Derived.WalkSmall
namespace Go.Proofs.YtffklmlljekceaaGreat
open Go.ChangeShapes Go.WideShapes Go.ChangeAt Go.RowKit Go.Deep Go.Joins
set_option linter.unusedVariables false
set_option linter.unusedSimpArgs false

/-- the number at place i: in 1..high, above the one ahead of it -/
def numAtB (high : Int) (l : List Int) (i : Nat) : Bool := inB (l.getD i 0) 1 high && (decide (i = 0) || decide (l.getD (i - 1) 0 < l.getD i 0))
def numsOkB (high : Int) (l : List Int) : Bool := (List.range l.length).all (numAtB high l)
theorem nums_of {high : Int} {l : List Int} {n : Nat} (hn : l.length = n) (h : ∀ i, i < n → numAtB high l i = true) : numsOkB high l = true := by
  unfold numsOkB
  rw [List.all_eq_true]
  intro i hi
  exact h i (by rw [List.mem_range] at hi; omega)
theorem not_nums_of {high : Int} {l : List Int} {k : Nat} (hk : k < l.length) (h : numAtB high l k = false) : numsOkB high l = false := by
  unfold numsOkB
  rw [List.all_eq_false]
  exact ⟨k, List.mem_range.2 hk, by simp [h]⟩
theorem numAt_first {high : Int} {l : List Int} {z : Int} (hs : l[0]? = some z) (g : inB z 1 high = true) : numAtB high l 0 = true := by
  simp [numAtB, List.getD, hs, g]
theorem numAt_yes {high : Int} {l : List Int} {k : Nat} {y z : Int} (hs : l[k]? = some z) (hp : l[k - 1]? = some y) (g : inB z 1 high = true) (h : y < z) : numAtB high l k = true := by
  simp [numAtB, List.getD, hs, hp, g, h]
theorem numAt_in {high : Int} {l : List Int} {k : Nat} {z : Int} (hs : l[k]? = some z) (g : inB z 1 high = false) : numAtB high l k = false := by
  simp [numAtB, List.getD, hs, g]
theorem numAt_no {high : Int} {l : List Int} {k : Nat} {y z : Int} (hk : 0 < k) (hs : l[k]? = some z) (hp : l[k - 1]? = some y) (h : ¬ y < z) : numAtB high l k = false := by
  have : ¬ k = 0 := by omega
  simp [numAtB, List.getD, hs, hp, h, this]
theorem drewN_drewN {w wr : World} (h : ∃ m, wr = w.drewN m) (n : Nat) : ∃ m, wr.drewN n = w.drewN m := by
  obtain ⟨m, rfl⟩ := h
  exact ⟨m + n, by simp⟩
theorem below_of_drewN {w wr : World} (h : ∃ m, wr = w.drewN m) : Below w.heap.size w wr := by
  obtain ⟨m, rfl⟩ := h
  exact below_drewN (Below.refl _ _) m

set_option maxHeartbeats 2000000 in
theorem specNumbers (a : Option Addr) (l : List Int) (n cap : Nat) (of_ : Int) (w : World) (hn : l.length = n) (hc : n ≤ maxLen) (h : IntsAt w a l) :
    Calls Tryz.prog 73 #[.slice a n cap, .int .i64 of_] w fun e w' => e = .returned (.bool (numsOkB of_ l)) ∧ ∃ m, w' = w.drewN m := by
  unfold maxLen at hc
  have HL : Hid (l.length = n) := hn
  clear hn
  go_enter Tryz.func73, Tryz.ntmps73
  go_wp2
  go_loopw [5] (fun i wr => ∃ (k : Nat), k ≤ n ∧ i = .int .i64 k ∧ (∀ j, j < k → numAtB of_ l j = true) ∧ ∃ m, wr = w.drewN m) (fun i _ => n - (intOf i).toNat)
  case atStart => exact ⟨0, Nat.zero_le _, rfl, fun j hj => absurd hj (by omega), 0, rfl⟩
  case round =>
    obtain ⟨k, hk, rfl, hall0, hm0⟩ := hrel
    have hall : Hid (∀ j, j < k → numAtB of_ l j = true) := hall0
    have hm : Hid (∃ m, wr = w.drewN m) := hm0
    have hA := h.ext (below_of_drewN hm0)
    clear hall0 hm0 h
    by_cases hlt : k < n
    · obtain ⟨z, hs0⟩ : ∃ s, l[k]? = some s := ⟨_, List.getElem?_eq_getElem (by rw [HL.out]; exact hlt)⟩
      have hs : Hid (l[k]? = some z) := hs0
      obtain ⟨b, off, rfl, hb, c0, _⟩ := hA k z hs0
      clear hs0
      have e1 : (0 : Int) ≤ (k : Int) := by omega
      have e2 : (k : Int) < (n : Int) := by omega
      have hkl : Hid (k < l.length) := by unfold Hid; rw [HL.out]; exact hlt
      cases g1 : inB z 1 of_
      · go_wp2_with fail
        go_quiet ((go_at_call 70; exact Calls.quiet_of_same (l1In_any _ _ _ _)))
        go_wp2
        go_ret
        exact ⟨by rw [not_nums_of hkl.out (numAt_in hs.out g1)]; rfl, drewN_drewN hm.out _⟩
      · by_cases hk0 : 0 < k
        · obtain ⟨y, hs1⟩ : ∃ s, l[k-1]? = some s := ⟨_, List.getElem?_eq_getElem (by rw [HL.out]; omega)⟩
          have hp : Hid (l[k-1]? = some y) := hs1
          obtain ⟨b', off', e, hb', c1, _⟩ := hA (k-1) y hs1
          simp only [Option.some.injEq, Addr.mk.injEq, and_true] at e
          obtain ⟨rfl, rfl⟩ := e
          clear hs1
          have u1 : (0 : Int) < (k : Int) := by omega
          have u2 : decide ((0 : Int) < (k : Int)) = true := decide_eq_true u1
          have u3 : (0 : Int) ≤ (k : Int) - 1 := by omega
          have u4 : (k : Int) - 1 < (n : Int) := by omega
          have u5 : ((k : Int) - 1).toNat = k - 1 := by omega
          by_cases hy : y < z
          · have u6 : decide (z ≤ y) = false := decide_eq_false (by omega)
            go_wp2_with fail
            go_quiet ((go_at_call 70; exact Calls.quiet_of_same (l1In_any _ _ _ _)))
            go_wp2
            go_roundw
            case rel =>
              refine ⟨k + 1, by omega, by go_num, fun j hj => ?_, drewN_drewN hm.out _⟩
              by_cases he : j = k
              · rw [he]; exact numAt_yes hs.out hp.out g1 hy
              · exact hall.out j (by omega)
            case measure => simp [intOf]; omega
          · have u6 : decide (z ≤ y) = true := decide_eq_true (by omega)
            go_wp2_with fail
            go_quiet ((go_at_call 70; exact Calls.quiet_of_same (l1In_any _ _ _ _)))
            go_wp2
            go_ret
            exact ⟨by rw [not_nums_of hkl.out (numAt_no hk0 hs.out hp.out (by omega))]; rfl, drewN_drewN hm.out _⟩
        · have u2 : decide ((0 : Int) < (k : Int)) = false := decide_eq_false (by omega)
          go_wp2_with fail
          go_quiet ((go_at_call 70; exact Calls.quiet_of_same (l1In_any _ _ _ _)))
          go_wp2
          go_roundw
          case rel =>
            refine ⟨k + 1, by omega, by go_num, fun j hj => ?_, drewN_drewN hm.out _⟩
            have hk9 : k = 0 := by omega
            have hj9 : j = 0 := by omega
            have := hs.out
            rw [hk9] at this
            rw [hj9]; exact numAt_first this g1
          case measure => simp [intOf]; omega
    · go_wp2
      go_ret
      exact ⟨by rw [nums_of HL.out (fun i hi => hall.out i (by omega))]; rfl, hm.out⟩

theorem asc_test {high : Int} {l : List Int} {k : Nat} {z L : Int} (hs : l[k]? = some z) (h0 : k = 0 → L = 0) (h1 : 0 < k → l[k - 1]? = some L) (hL : 0 ≤ L) : numAtB high l k = inB z (L + 1) high := by
  rw [Bool.eq_iff_iff, inB_iff]
  by_cases hk : k = 0
  · have := h0 hk
    subst hk
    simp [numAtB, List.getD, hs, inB]
    omega
  · have hp := h1 (by omega)
    simp [numAtB, List.getD, hs, hp, inB, hk]
    omega

set_option maxHeartbeats 2000000 in
theorem ascInts (a : Option Addr) (l : List Int) (n cap : Nat) (of_ : Int) (w : World) (hn : l.length = n) (hc : n ≤ maxLen) (hof : of_ ≤ 1000000) (h : IntsAt w a l) :
    Calls Tryz.prog 127 #[.slice a n cap, .func (.func 128) #[] #[], .int .i64 of_] w fun e w' => e = .returned (.bool (numsOkB of_ l)) ∧ w' = w := by
  unfold maxLen at hc
  have HL : Hid (l.length = n) := hn
  clear hn
  go_enter Tryz.func127, Tryz.ntmps127
  go_wp2
  go_loop [7, 12] (fun v i => ∃ (k : Nat) (L : Int), k ≤ n ∧ i = .int .i64 k ∧ v = .int .i64 L ∧ 0 ≤ L ∧ L ≤ 1000000 ∧ (k = 0 → L = 0) ∧ (0 < k → l[k - 1]? = some L) ∧ (∀ j, j < k → numAtB of_ l j = true)) (fun _ i => n - (intOf i).toNat)
  case atStart => exact ⟨0, 0, Nat.zero_le _, rfl, rfl, by omega, by omega, fun _ => rfl, fun h => absurd h (by omega), fun j hj => absurd hj (by omega)⟩
  case round =>
    obtain ⟨k, L, hk, rfl, rfl, hL0, hL1, q0, q1, hall0⟩ := hrel
    have HH : Hid ((k = 0 → L = 0) ∧ (0 < k → l[k - 1]? = some L) ∧ (∀ j, j < k → numAtB of_ l j = true)) := ⟨q0, q1, hall0⟩
    clear q0 q1 hall0
    by_cases hlt : k < n
    · obtain ⟨z, hs0⟩ : ∃ s, l[k]? = some s := ⟨_, List.getElem?_eq_getElem (by rw [HL.out]; exact hlt)⟩
      have hs : Hid (l[k]? = some z) := hs0
      obtain ⟨b, off, rfl, hb, c0, _⟩ := h k z hs0
      have HT : Hid (numAtB of_ l k = inB z (L + 1) of_) := asc_test hs0 HH.out.1 HH.out.2.1 hL0
      clear hs0
      have e1 : (0 : Int) ≤ (k : Int) := by omega
      have e2 : (k : Int) < (n : Int) := by omega
      have hkl : Hid (k < l.length) := by unfold Hid; rw [HL.out]; exact hlt
      cases g1 : inB z (L + 1) of_
      · go_wp2_with (first
          | (go_at_call 89; refine (within_any _ _ _ _).mono ?_; rintro e w' ⟨rfl, rfl⟩)
          | (go_at_call 128; go_in))
        go_ret
        exact ⟨by rw [not_nums_of hkl.out (by rw [HT.out, g1])]; rfl, rfl⟩
      · have hz := inB_iff.1 g1
        go_wp2_with (first
          | (go_at_call 89; refine (within_any _ _ _ _).mono ?_; rintro e w' ⟨rfl, rfl⟩)
          | (go_at_call 128; go_in))
        go_round
        case rel =>
          refine ⟨k + 1, z, by omega, by go_num, rfl, by omega, by omega, fun h => absurd h (by omega), fun _ => hs.out, fun j hj => ?_⟩
          by_cases he : j = k
          · rw [he, HT.out, g1]
          · exact HH.out.2.2 j (by omega)
        case measure => simp [intOf]; omega
    · go_wp2
      go_ret
      exact ⟨by rw [nums_of HL.out (fun i hi => HH.out.2.2 i (by omega))]; rfl, rfl⟩

theorem implNumbers (a : Option Addr) (l : List Int) (n cap : Nat) (of_ : Int) (w : World) (hn : l.length = n) (hc : n ≤ maxLen) (hof : of_ ≤ 1000000) (h : IntsAt w a l) :
    Calls Tryz.prog 90 #[.slice a n cap, .int .i64 of_] w fun e w' => e = .returned (.bool (numsOkB of_ l)) ∧ w' = w := by
  have HL : Hid (l.length = n) := hn
  clear hn
  go_enter Tryz.func90, Tryz.ntmps90
  go_wp2_with (go_at_call 127; refine (ascInts a l n cap of_ _ HL.out hc hof h).mono ?_; rintro e w' ⟨rfl, rfl⟩)
  go_ret
  exact ⟨rfl, rfl⟩
end Go.Proofs.YtffklmlljekceaaGreat
