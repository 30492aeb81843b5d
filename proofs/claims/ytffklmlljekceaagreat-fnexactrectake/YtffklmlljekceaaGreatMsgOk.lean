/-
  Messages: RecMessageOk of both; szRecMessage, toRecMessage, eqRecMessage.
-/
import Derived.Test.YtffklmlljekceaaGreatSlotsOk
import Derived.Test.YtffklmlljekceaaGreatSlotsEq
import Derived.Test.YtffklmlljekceaaGreatSlotsTo
namespace Go.Proofs.YtffklmlljekceaaGreat
open Go.ChangeShapes Go.WideShapes Go.ChangeAt Go.RowKit
set_option linter.unusedVariables false
set_option linter.unusedSimpArgs false

/-- a message but for its slots -/
structure MsgH where
  k : Int
  f : Int
  t : Int
  b : Int
  i : Int
  n : Int
  x : ByteArray
/-- its cells -/
abbrev msgV (h : MsgH) (v : Value) : Array Value := #[.int .i64 h.k, .int .i64 h.f, .int .i64 h.t, .int .i64 h.b, .int .i64 h.i, .int .i64 h.n, .string h.x, v]
def msgOkB (h : MsgH) (of_ : Int) (l : List Sl) : Bool :=
  inB h.k 1 9 && inB h.f 1 of_ && inB h.t 1 of_ && inB h.b 0 1000000 && inB h.i 0 60 && inB h.n 0 60 && decide ((h.x.size : Int) ≤ 100) && slotsOkB l

set_option maxHeartbeats 2000000 in
theorem specMsgOk (h : MsgH) (of_ : Int) (a : Option Addr) (l : List Sl) (n cap : Nat) (w : World) (hn : l.length = n) (hc : n ≤ maxLen) (hx : h.x.size ≤ maxLen) (hs : SlotsAt w a l) :
    Calls Tryz.prog 29 #[.agg (msgV h (.slice a n cap)), .int .i64 of_] w fun e w' => e = .returned (.bool (msgOkB h of_ l)) ∧ Below w.heap.size w w' := by
  have HL : Hid (l.length = n) := hn
  have HX : Hid (h.x.size ≤ maxLen) := hx
  unfold maxLen at hx
  clear hn
  have hB : Below w.heap.size w (w.alloc (.cells (msgV h (.slice a n cap)) 45)) := ext_alloc (Below.refl _ _) _
  have hA := hs.ext hB
  clear hs
  cases g0 : inB h.k 1 9
  · rw [show msgOkB h of_ l = false by simp [msgOkB, g0]]
    go_enter Tryz.func29, Tryz.ntmps29
    go_wp2_with (first
        | (go_at_call 70; refine (l1In_any _ _ _ _).mono ?_; rintro e w' ⟨rfl, rfl⟩)
        | (go_at_call 74; refine (specSlotsOk a l n cap _ HL.out hc hA).mono ?_; rintro e w9 ⟨rfl, rfl⟩))
    go_ret
    exact ⟨rfl, hB⟩
  · skip
    cases g1 : inB h.f 1 of_
    · rw [show msgOkB h of_ l = false by simp [msgOkB, g0, g1]]
      go_enter Tryz.func29, Tryz.ntmps29
      go_wp2_with (first
        | (go_at_call 70; refine (l1In_any _ _ _ _).mono ?_; rintro e w' ⟨rfl, rfl⟩)
        | (go_at_call 74; refine (specSlotsOk a l n cap _ HL.out hc hA).mono ?_; rintro e w9 ⟨rfl, rfl⟩))
      go_ret
      exact ⟨rfl, hB⟩
    · skip
      cases g2 : inB h.t 1 of_
      · rw [show msgOkB h of_ l = false by simp [msgOkB, g0, g1, g2]]
        go_enter Tryz.func29, Tryz.ntmps29
        go_wp2_with (first
        | (go_at_call 70; refine (l1In_any _ _ _ _).mono ?_; rintro e w' ⟨rfl, rfl⟩)
        | (go_at_call 74; refine (specSlotsOk a l n cap _ HL.out hc hA).mono ?_; rintro e w9 ⟨rfl, rfl⟩))
        go_ret
        exact ⟨rfl, hB⟩
      · skip
        cases g3 : inB h.b 0 1000000
        · rw [show msgOkB h of_ l = false by simp [msgOkB, g0, g1, g2, g3]]
          go_enter Tryz.func29, Tryz.ntmps29
          go_wp2_with (first
        | (go_at_call 70; refine (l1In_any _ _ _ _).mono ?_; rintro e w' ⟨rfl, rfl⟩)
        | (go_at_call 74; refine (specSlotsOk a l n cap _ HL.out hc hA).mono ?_; rintro e w9 ⟨rfl, rfl⟩))
          go_ret
          exact ⟨rfl, hB⟩
        · skip
          cases g4 : inB h.i 0 60
          · rw [show msgOkB h of_ l = false by simp [msgOkB, g0, g1, g2, g3, g4]]
            go_enter Tryz.func29, Tryz.ntmps29
            go_wp2_with (first
        | (go_at_call 70; refine (l1In_any _ _ _ _).mono ?_; rintro e w' ⟨rfl, rfl⟩)
        | (go_at_call 74; refine (specSlotsOk a l n cap _ HL.out hc hA).mono ?_; rintro e w9 ⟨rfl, rfl⟩))
            go_ret
            exact ⟨rfl, hB⟩
          · skip
            cases g5 : inB h.n 0 60
            · rw [show msgOkB h of_ l = false by simp [msgOkB, g0, g1, g2, g3, g4, g5]]
              go_enter Tryz.func29, Tryz.ntmps29
              go_wp2_with (first
        | (go_at_call 70; refine (l1In_any _ _ _ _).mono ?_; rintro e w' ⟨rfl, rfl⟩)
        | (go_at_call 74; refine (specSlotsOk a l n cap _ HL.out hc hA).mono ?_; rintro e w9 ⟨rfl, rfl⟩))
              go_ret
              exact ⟨rfl, hB⟩
            · skip
              by_cases g6 : (h.x.size : Int) ≤ 100
              · rw [show msgOkB h of_ l = slotsOkB l by simp [msgOkB, g0, g1, g2, g3, g4, g5, g6]]
                cases g7 : slotsOkB l
                · go_enter Tryz.func29, Tryz.ntmps29
                  go_wp2_with (first
        | (go_at_call 70; refine (l1In_any _ _ _ _).mono ?_; rintro e w' ⟨rfl, rfl⟩)
        | (go_at_call 74; refine (specSlotsOk a l n cap _ HL.out hc hA).mono ?_; rintro e w9 ⟨rfl, rfl⟩))
                  go_ret
                  exact ⟨rfl, hB⟩
                · go_enter Tryz.func29, Tryz.ntmps29
                  go_wp2_with (first
        | (go_at_call 70; refine (l1In_any _ _ _ _).mono ?_; rintro e w' ⟨rfl, rfl⟩)
        | (go_at_call 74; refine (specSlotsOk a l n cap _ HL.out hc hA).mono ?_; rintro e w9 ⟨rfl, rfl⟩))
                  go_ret
                  exact ⟨rfl, hB⟩
              · rw [show msgOkB h of_ l = false by simp [msgOkB, g6]]
                go_enter Tryz.func29, Tryz.ntmps29
                go_wp2_with (first
        | (go_at_call 70; refine (l1In_any _ _ _ _).mono ?_; rintro e w' ⟨rfl, rfl⟩)
        | (go_at_call 74; refine (specSlotsOk a l n cap _ HL.out hc hA).mono ?_; rintro e w9 ⟨rfl, rfl⟩))
                go_ret
                exact ⟨rfl, hB⟩

set_option maxHeartbeats 2000000 in
theorem implMsgOk (h : MsgH) (of_ : Int) (a : Option Addr) (l : List Sl) (n cap : Nat) (w : World) (hn : l.length = n) (hc : n ≤ maxLen) (hx : h.x.size ≤ maxLen) (hs : SlotsAt w a l) :
    Calls Tryz.prog 40 #[.agg (msgV h (.slice a n cap)), .int .i64 of_] w fun e w' => e = .returned (.bool (msgOkB h of_ l)) ∧ Below w.heap.size w w' := by
  have HL : Hid (l.length = n) := hn
  have HX : Hid (h.x.size ≤ maxLen) := hx
  unfold maxLen at hx
  clear hn
  have hB : Below w.heap.size w (w.alloc (.cells (msgV h (.slice a n cap)) 45)) := ext_alloc (Below.refl _ _) _
  have hA := hs.ext hB
  clear hs
  cases g0 : inB h.k 1 9
  · rw [show msgOkB h of_ l = false by simp [msgOkB, g0]]
    go_enter Tryz.func40, Tryz.ntmps40
    go_wp2_with (first
        | (go_at_call 89; refine (within_any _ _ _ _).mono ?_; rintro e w' ⟨rfl, rfl⟩)
        | (go_at_call 91; refine (implSlotsOk a l n cap _ HL.out hc hA).mono ?_; rintro e w9 ⟨rfl, hb9⟩))
    go_ret
    exact ⟨rfl, hB⟩
  · skip
    cases g1 : inB h.f 1 of_
    · rw [show msgOkB h of_ l = false by simp [msgOkB, g0, g1]]
      go_enter Tryz.func40, Tryz.ntmps40
      go_wp2_with (first
        | (go_at_call 89; refine (within_any _ _ _ _).mono ?_; rintro e w' ⟨rfl, rfl⟩)
        | (go_at_call 91; refine (implSlotsOk a l n cap _ HL.out hc hA).mono ?_; rintro e w9 ⟨rfl, hb9⟩))
      go_ret
      exact ⟨rfl, hB⟩
    · skip
      cases g2 : inB h.t 1 of_
      · rw [show msgOkB h of_ l = false by simp [msgOkB, g0, g1, g2]]
        go_enter Tryz.func40, Tryz.ntmps40
        go_wp2_with (first
        | (go_at_call 89; refine (within_any _ _ _ _).mono ?_; rintro e w' ⟨rfl, rfl⟩)
        | (go_at_call 91; refine (implSlotsOk a l n cap _ HL.out hc hA).mono ?_; rintro e w9 ⟨rfl, hb9⟩))
        go_ret
        exact ⟨rfl, hB⟩
      · skip
        cases g3 : inB h.b 0 1000000
        · rw [show msgOkB h of_ l = false by simp [msgOkB, g0, g1, g2, g3]]
          go_enter Tryz.func40, Tryz.ntmps40
          go_wp2_with (first
        | (go_at_call 89; refine (within_any _ _ _ _).mono ?_; rintro e w' ⟨rfl, rfl⟩)
        | (go_at_call 91; refine (implSlotsOk a l n cap _ HL.out hc hA).mono ?_; rintro e w9 ⟨rfl, hb9⟩))
          go_ret
          exact ⟨rfl, hB⟩
        · skip
          cases g4 : inB h.i 0 60
          · rw [show msgOkB h of_ l = false by simp [msgOkB, g0, g1, g2, g3, g4]]
            go_enter Tryz.func40, Tryz.ntmps40
            go_wp2_with (first
        | (go_at_call 89; refine (within_any _ _ _ _).mono ?_; rintro e w' ⟨rfl, rfl⟩)
        | (go_at_call 91; refine (implSlotsOk a l n cap _ HL.out hc hA).mono ?_; rintro e w9 ⟨rfl, hb9⟩))
            go_ret
            exact ⟨rfl, hB⟩
          · skip
            cases g5 : inB h.n 0 60
            · rw [show msgOkB h of_ l = false by simp [msgOkB, g0, g1, g2, g3, g4, g5]]
              go_enter Tryz.func40, Tryz.ntmps40
              go_wp2_with (first
        | (go_at_call 89; refine (within_any _ _ _ _).mono ?_; rintro e w' ⟨rfl, rfl⟩)
        | (go_at_call 91; refine (implSlotsOk a l n cap _ HL.out hc hA).mono ?_; rintro e w9 ⟨rfl, hb9⟩))
              go_ret
              exact ⟨rfl, hB⟩
            · skip
              by_cases g6 : (h.x.size : Int) ≤ 100
              · rw [show msgOkB h of_ l = slotsOkB l by simp [msgOkB, g0, g1, g2, g3, g4, g5, g6]]
                cases g7 : slotsOkB l
                · go_enter Tryz.func40, Tryz.ntmps40
                  go_wp2_with (first
        | (go_at_call 89; refine (within_any _ _ _ _).mono ?_; rintro e w' ⟨rfl, rfl⟩)
        | (go_at_call 91; refine (implSlotsOk a l n cap _ HL.out hc hA).mono ?_; rintro e w9 ⟨rfl, hb9⟩))
                  go_ret
                  exact ⟨rfl, ext_trans hB hb9⟩
                · go_enter Tryz.func40, Tryz.ntmps40
                  go_wp2_with (first
        | (go_at_call 89; refine (within_any _ _ _ _).mono ?_; rintro e w' ⟨rfl, rfl⟩)
        | (go_at_call 91; refine (implSlotsOk a l n cap _ HL.out hc hA).mono ?_; rintro e w9 ⟨rfl, hb9⟩))
                  go_ret
                  exact ⟨rfl, ext_trans hB hb9⟩
              · rw [show msgOkB h of_ l = false by simp [msgOkB, g6]]
                go_enter Tryz.func40, Tryz.ntmps40
                go_wp2_with (first
        | (go_at_call 89; refine (within_any _ _ _ _).mono ?_; rintro e w' ⟨rfl, rfl⟩)
        | (go_at_call 91; refine (implSlotsOk a l n cap _ HL.out hc hA).mono ?_; rintro e w9 ⟨rfl, hb9⟩))
                go_ret
                exact ⟨rfl, hB⟩
end Go.Proofs.YtffklmlljekceaaGreat
