/-
  What a recorder holds: impl.heldOk.
-/
import Derived.Test.YtffklmlljekceaaGreatRec
namespace Go.Proofs.YtffklmlljekceaaGreat
open Go.ChangeShapes Go.WideShapes Go.ChangeAt Go.RowKit Go.Deep Go.Joins
set_option linter.unusedVariables false
set_option linter.unusedSimpArgs false

def holdB (num of_ : Int) (m : Ms) : Bool := decide (m.1.f = num) && msgOkB m.1 of_ m.2
def heldOkB (num of_ : Int) (l : List Ms) : Bool := decide (l.length ≤ 400) && l.all (holdB num of_)
theorem held_of {num of_ : Int} {l : List Ms} {n : Nat} (hn : l.length = n) (hz : n ≤ 400) (h : ∀ (i : Nat) s, i < n → l[i]? = some s → holdB num of_ s = true) : heldOkB num of_ l = true := by
  unfold heldOkB
  rw [hn, decide_eq_true hz, Bool.true_and, List.all_eq_true]
  intro s hs
  obtain ⟨i, hi, rfl⟩ := List.getElem_of_mem hs
  exact h i _ (by omega) (List.getElem?_eq_getElem hi)
theorem not_held_of {num of_ : Int} {l : List Ms} {k : Nat} {s : Ms} (hs : l[k]? = some s) (h : holdB num of_ s = false) : heldOkB num of_ l = false := by
  unfold heldOkB
  rw [show l.all (holdB num of_) = false from by rw [List.all_eq_false]; exact ⟨s, List.mem_of_getElem? hs, by simp [h]⟩, Bool.and_false]
theorem not_held_len {num of_ : Int} {l : List Ms} {n : Nat} (hn : l.length = n) (hz : ¬ n ≤ 400) : heldOkB num of_ l = false := by
  unfold heldOkB
  rw [hn, decide_eq_false hz, Bool.false_and]

set_option maxHeartbeats 4000000 in
theorem implHeldOk (r : Rc) (p : RcP) (w : World) (h : RcAt w r p) :
    Calls Tryz.prog 87 #[.agg (rcV r p)] w fun e w' => e = .returned (.bool (heldOkB r.num r.of_ r.held)) ∧ Below w.heap.size w w' := by
  obtain ⟨aS, cS, aD, cD, aH, cH, aW, cW, aY, cY, aB, cB, aA, cA⟩ := p
  have hB : Below w.heap.size w (w.alloc (.cells (rcV r ⟨aS, cS, aD, cD, aH, cH, aW, cW, aY, cY, aB, cB, aA, cA⟩) 41)) := ext_alloc (Below.refl _ _) _
  have hM := (h.ext hB).hH
  dsimp only at hM
  have hc := h.lH
  unfold maxLen at hc
  have b0 := Blk.new w (rcV r ⟨aS, cS, aD, cD, aH, cH, aW, cW, aY, cY, aB, cB, aA, cA⟩) 41
  clear h
  by_cases hz : r.held.length ≤ 400
  · go_enter Tryz.func87, Tryz.ntmps87
    go_wp2
    go_loopw [12] (fun i wr => ∃ (k : Nat), k ≤ r.held.length ∧ i = .int .i64 k ∧ (∀ (j : Nat) s, j < k → r.held[j]? = some s → holdB r.num r.of_ s = true) ∧ Below (w.alloc (.cells (rcV r ⟨aS, cS, aD, cD, aH, cH, aW, cW, aY, cY, aB, cB, aA, cA⟩) 41)).heap.size (w.alloc (.cells (rcV r ⟨aS, cS, aD, cD, aH, cH, aW, cW, aY, cY, aB, cB, aA, cA⟩) 41)) wr) (fun i _ => r.held.length - (intOf i).toNat)
    case atStart => exact ⟨0, Nat.zero_le _, rfl, fun j s hj => absurd hj (by omega), Below.refl _ _⟩
    case round =>
      obtain ⟨k, hk, rfl, hall0, hbel⟩ := hrel
      have hall : Hid (∀ (j : Nat) s, j < k → r.held[j]? = some s → holdB r.num r.of_ s = true) := hall0
      clear hall0
      by_cases hlt : k < r.held.length
      · obtain ⟨s, hs0⟩ : ∃ s, r.held[k]? = some s := ⟨_, List.getElem?_eq_getElem hlt⟩
        have hs : Hid (r.held[k]? = some s) := hs0
        obtain ⟨b, off, sa, cp, rfl, hb, c0, c1, c2, c3, c4, c5, c6, c7, q1, q2, q3⟩ := (hM.ext hbel) k s hs0
        clear hs0
        obtain ⟨⟨mk, mf, mt, mb, mi, mn, mx⟩, ml⟩ := s
        dsimp only at c0 c1 c2 c3 c4 c5 c6 c7 q1 q2 q3
        have cb := (b0.ext hbel).cell
        have HBel : Hid (Below _ _ wr) := hbel
        have db := fun (o : Obj) => ((b0.ext hbel).alloc o).cell
        have e1 : (0 : Int) ≤ (k : Int) := by omega
        have e2 : (k : Int) < (r.held.length : Int) := by omega
        by_cases hf : mf = r.num
        · subst hf
          cases g : msgOkB ⟨mk, r.num, mt, mb, mi, mn, mx⟩ r.of_ ml
          · go_wp2_with (go_at_call 40; refine (implMsgOk ⟨mk, r.num, mt, mb, mi, mn, mx⟩ _ sa ml _ cp _ rfl q2 q1 (by exact q3.ext (ext_alloc (Below.refl _ _) _))).mono ?_; rintro e w' ⟨rfl, hb'⟩)
            go_ret
            exact ⟨by rw [not_held_of hs.out (by simp [holdB, g])]; rfl, ext_trans hB (ext_trans (ext_alloc HBel.out _) hb')⟩
          · go_wp2_with (go_at_call 40; refine (implMsgOk ⟨mk, r.num, mt, mb, mi, mn, mx⟩ _ sa ml _ cp _ rfl q2 q1 (by exact q3.ext (ext_alloc (Below.refl _ _) _))).mono ?_; rintro e w' ⟨rfl, hb'⟩)
            go_roundw
            case rel =>
              refine ⟨k + 1, by omega, by go_num, fun j t hj ht => ?_, ext_trans (ext_alloc HBel.out _) hb'⟩
              by_cases he : j = k
              · subst he; rw [hs.out] at ht; simp only [Option.some.injEq] at ht; rw [← ht]; simp [holdB, g]
              · exact hall.out j t (by omega) ht
            case measure => simp [intOf]; omega
        · go_wp2
          go_ret
          exact ⟨by rw [not_held_of hs.out (by simp [holdB, hf])]; rfl, ext_trans hB (ext_alloc HBel.out _)⟩
      · go_wp2
        go_ret
        exact ⟨by rw [held_of rfl hz (fun i s hi hs => hall.out i s (by omega) hs)]; rfl, ext_trans hB hbel⟩
  · have HN : Hid (¬ r.held.length ≤ 400) := hz
    go_enter Tryz.func87, Tryz.ntmps87
    go_wp2
    go_ret
    exact ⟨by rw [not_held_len rfl HN.out]; rfl, hB⟩
end Go.Proofs.YtffklmlljekceaaGreat
