/-
  Whether a text stands in slots: spec.l3Has.
-/
import Derived.Test.YtffklmlljekceaaGreatSlotsTo
import Derived.WalkSmall
namespace Go.Proofs.YtffklmlljekceaaGreat
open Go.ChangeShapes Go.WideShapes Go.ChangeAt Go.RowKit
set_option linter.unusedVariables false
set_option linter.unusedSimpArgs false

def slotIs (t : ByteArray) (s : Sl) : Bool := decide (0 < s.1) && (s.2.toList == t.toList)
def hasSlot (l : List Sl) (t : ByteArray) : Bool := l.any (slotIs t)
theorem hasSlot_yes {l : List Sl} {t : ByteArray} {k : Nat} {s : Sl} (hs : l[k]? = some s) (h : slotIs t s = true) : hasSlot l t = true := List.any_eq_true.2 ⟨s, List.mem_of_getElem? hs, h⟩
theorem hasSlot_no {l : List Sl} {t : ByteArray} {n : Nat} (hn : l.length = n) (h : ∀ (i : Nat) s, i < n → l[i]? = some s → slotIs t s = false) : hasSlot l t = false := by
  unfold hasSlot
  rw [List.any_eq_false]
  intro s hs
  obtain ⟨i, hi, rfl⟩ := List.getElem_of_mem hs
  rw [h i _ (by omega) (List.getElem?_eq_getElem hi)]
  simp
set_option maxHeartbeats 4000000 in
theorem l3Has_any (a : Option Addr) (l : List Sl) (n cap : Nat) (t : ByteArray) (w : World) (hn : l.length = n) (hc : n ≤ maxLen) (h : SlotsAt w a l) :
    Calls Tryz.prog 58 #[.slice a n cap, .string t] w fun e w' => e = .returned (.bool (hasSlot l t)) ∧ Below w.heap.size w w' := by
  unfold maxLen at hc
  have HL : Hid (l.length = n) := hn
  clear hn
  go_enter Tryz.func58, Tryz.ntmps58
  go_wp2
  go_loopw [5] (fun i wr => ∃ (k : Nat), k ≤ n ∧ i = .int .i64 k ∧ (∀ (j : Nat) s, j < k → l[j]? = some s → slotIs t s = false) ∧ Below w.heap.size w wr) (fun i _ => n - (intOf i).toNat)
  case atStart => exact ⟨0, Nat.zero_le _, rfl, fun j s hj => absurd hj (by omega), Below.refl _ _⟩
  case round =>
    obtain ⟨k, hk, rfl, hall0, hbel⟩ := hrel
    have hall : Hid (∀ (j : Nat) s, j < k → l[j]? = some s → slotIs t s = false) := hall0
    clear hall0
    by_cases hlt : k < n
    · obtain ⟨s, hs0⟩ : ∃ s, l[k]? = some s := ⟨_, List.getElem?_eq_getElem (by rw [HL.out]; exact hlt)⟩
      have hs : Hid (l[k]? = some s) := hs0
      obtain ⟨b, off, rfl, hb, c0, c1, _⟩ := (h.ext hbel) k s hs0
      clear hs0
      have e1 : (0 : Int) ≤ (k : Int) := by omega
      have e2 : (k : Int) < (n : Int) := by omega
      by_cases hp : 0 < s.1
      · have u1 : decide ((0 : Int) < s.1) = true := decide_eq_true hp
        cases hq : (s.2.toList == t.toList)
        · go_wp2
          go_roundw
          case rel =>
            refine ⟨k + 1, by omega, by go_num, fun j u hj hu => ?_, hbel⟩
            by_cases he : j = k
            · subst he; rw [hs.out] at hu; simp only [Option.some.injEq] at hu; rw [← hu]; simp [slotIs, hq]
            · exact hall.out j u (by omega) hu
          case measure => simp [intOf]; omega
        · go_wp2
          go_ret
          exact ⟨by rw [hasSlot_yes hs.out (by simp [slotIs, hq, hp])]; rfl, hbel⟩
      · have u1 : decide ((0 : Int) < s.1) = false := decide_eq_false hp
        go_wp2
        go_roundw
        case rel =>
          refine ⟨k + 1, by omega, by go_num, fun j u hj hu => ?_, hbel⟩
          by_cases he : j = k
          · subst he; rw [hs.out] at hu; simp only [Option.some.injEq] at hu; rw [← hu]; simp [slotIs]; intro h9; omega
          · exact hall.out j u (by omega) hu
        case measure => simp [intOf]; omega
    · go_wp2
      go_ret
      exact ⟨by rw [hasSlot_no HL.out (fun i s hi hs => hall.out i s (by omega) hs)]; rfl, hbel⟩
end Go.Proofs.YtffklmlljekceaaGreat
