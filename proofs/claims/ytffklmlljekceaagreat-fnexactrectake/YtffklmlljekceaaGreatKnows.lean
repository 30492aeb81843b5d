/-
  impl.knowsText: a closure is asked of each of the known slots.
-/
import Derived.Test.YtffklmlljekceaaGreatDrawnRec
import Derived.Test.YtffklmlljekceaaGreatMergeL
import Derived.Test.YtffklmlljekceaaGreatSpecHas
namespace Go.Proofs.YtffklmlljekceaaGreat
open Go.ChangeShapes Go.WideShapes Go.ChangeAt Go.RowKit
set_option linter.unusedVariables false
set_option linter.unusedSimpArgs false

def textIs (t : ByteArray) (s : Sl) : Bool := s.2.toList == t.toList
def hasText (l : List Sl) (t : ByteArray) : Bool := l.any (textIs t)
set_option maxHeartbeats 2000000 in
theorem knows1 (s : Sl) (tb : Nat) (t : ByteArray) (w : World) (hb : Blk w tb #[.string t] 9) :
    Calls Tryz.prog 157 #[.agg #[.int .i64 s.1, .string s.2], .pointer (some ⟨tb, 0, none⟩)] w fun e w' => e = .returned (.bool (textIs t s)) ∧ Below w.heap.size w w' := by
  have hB := hid (show Below w.heap.size w (w.alloc (.cells #[.int .i64 s.1, .string s.2] 108)) from ext_alloc (Below.refl _ _) _)
  have c1 := (hb.alloc (.cells #[.int .i64 s.1, .string s.2] 108)).cell 0
  go_enter Tryz.func157, Tryz.ntmps157
  go_wp2
  go_ret
  exact ⟨rfl, hB.out⟩

set_option maxHeartbeats 4000000 in
theorem knowsIndex (a : Option Addr) (l : List Sl) (n cap tb : Nat) (t : ByteArray) (w : World) (hn : l.length = n) (hc : n ≤ maxLen) (hb : Blk w tb #[.string t] 9) (h : SlotsAt w a l) :
    Calls Tryz.prog 168 #[.slice a n cap, .func (.func 157) #[] #[.pointer (some ⟨tb, 0, none⟩)]] w fun e w' => ∃ r : Int, e = .returned (.int .i64 r) ∧ decide (0 ≤ r) = hasText l t ∧ Below w.heap.size w w' := by
  unfold maxLen at hc
  have HL : Hid (l.length = n) := hn
  clear hn
  go_enter Tryz.func168, Tryz.ntmps168
  go_wp2
  go_loopw [8] (fun i wr => ∃ (k : Nat), k ≤ n ∧ i = .int .i64 k ∧ (∀ (q : Nat) u, q < k → l[q]? = some u → textIs t u = false) ∧ Below w.heap.size w wr) (fun i _ => n - (intOf i).toNat)
  case atStart => exact ⟨0, Nat.zero_le _, rfl, fun q u hq => absurd hq (by omega), Below.refl _ _⟩
  case round =>
    obtain ⟨k, hk, rfl, hin0, hbel0⟩ := hrel
    have hin : Hid (∀ (q : Nat) u, q < k → l[q]? = some u → textIs t u = false) := hin0
    have hbel := hid hbel0
    clear hin0 hbel0
    by_cases hlt : k < n
    · obtain ⟨u, hs0⟩ : ∃ s, l[k]? = some s := ⟨_, List.getElem?_eq_getElem (by rw [HL.out]; exact hlt)⟩
      have hs : Hid (l[k]? = some u) := hs0
      obtain ⟨b, off, rfl, hb1, c0, c1, _⟩ := (h.ext hbel.out) k u hs0
      clear hs0
      have HK := hid (hb.ext hbel.out)
      have e1 : (0 : Int) ≤ (k : Int) := by omega
      have e2 : (k : Int) < (n : Int) := by omega
      go_wp2_with fail
      refine (knows1 u tb t _ HK.out).mono ?_
      rintro e z ⟨rfl, hz⟩
      have Z := hid (ext_trans hbel.out hz)
      clear hz
      cases hq : textIs t u
      · have HQ := hid hq
        clear hq
        go_wp2
        go_roundw
        case rel =>
          refine ⟨k + 1, by omega, by go_num, fun q v hq hv => ?_, Z.out⟩
          by_cases he : q = k
          · subst he; rw [hs.out] at hv; simp only [Option.some.injEq] at hv; rw [← hv]; exact HQ.out
          · exact hin.out q v (by omega) hv
        case measure => simp [intOf]; omega
      · have HQ := hid hq
        clear hq
        go_wp2
        go_ret
        refine ⟨k, rfl, ?_, Z.out⟩
        rw [decide_eq_true e1]
        exact (List.any_eq_true.2 ⟨u, List.mem_of_getElem? hs.out, HQ.out⟩).symm
    · go_wp2
      go_ret
      refine ⟨-1, rfl, ?_, hbel.out⟩
      have : hasText l t = false := by
        unfold hasText
        rw [List.any_eq_false]
        intro u hu
        obtain ⟨i, hi, rfl⟩ := List.getElem_of_mem hu
        rw [hin.out i _ (by have := HL.out; omega) (List.getElem?_eq_getElem hi)]
        simp
      rw [this]
      rfl
theorem knowsContains (a : Option Addr) (l : List Sl) (n cap tb : Nat) (t : ByteArray) (w : World) (hn : l.length = n) (hc : n ≤ maxLen) (hb : Blk w tb #[.string t] 9) (h : SlotsAt w a l) :
    Calls Tryz.prog 156 #[.slice a n cap, .func (.func 157) #[] #[.pointer (some ⟨tb, 0, none⟩)]] w fun e w' => e = .returned (.bool (hasText l t)) ∧ Below w.heap.size w w' := by
  have HL : Hid (l.length = n) := hn
  have HB := hid hb
  clear hn hb
  go_enter Tryz.func156, Tryz.ntmps156
  go_wp2_with (go_at_call 168; refine (knowsIndex a l n cap tb t _ HL.out hc HB.out h).mono ?_; rintro e w' ⟨r, rfl, hr, hz⟩; have Z := hid hz; clear hz)
  go_ret
  exact ⟨rfl, Z.out⟩
theorem SlotsAt.take {w : World} {a : Option Addr} {l : List Sl} (h : SlotsAt w a l) (k : Nat) : SlotsAt w a (l.take k) := fun i s hs => h i s (by
  have hi := (List.getElem?_eq_some_iff.1 hs).1
  simp only [List.length_take] at hi
  rw [List.getElem?_take_of_lt (by omega)] at hs
  exact hs)

set_option maxHeartbeats 2000000 in
theorem knows_any (x y : Int) (a : Option Addr) (l : List Sl) (n cap k : Nat) (t : ByteArray) (w : World) (hn : l.length = n) (hc : n ≤ maxLen) (hy : y = (k : Int)) (hk : k ≤ n) (hcap : n ≤ cap) (ha : a = none → cap = 0) (h : SlotsAt w a l) :
    Calls Tryz.prog 144 #[.agg #[.int .i64 x, .int .i64 y, .slice a n cap], .string t] w fun e w' => e = .returned (.bool (hasText (l.take k) t)) ∧ Below w.heap.size w w' := by
  subst hy
  have HL := hid (show (l.take k).length = k by rw [List.length_take, hn]; omega)
  have HC := hid (show k ≤ maxLen from Nat.le_trans hk hc)
  obtain ⟨W, hW⟩ : ∃ W, W = (w.alloc (.cells #[.int .i64 x, .int .i64 (k : Int), .slice a n cap] 37)).alloc (.cells #[.string t] 9) := ⟨_, rfl⟩
  have BW := hid (show Below w.heap.size w W by rw [hW]; exact ext_alloc (ext_alloc (Below.refl _ _) _) _)
  have KW := hid (show Blk W (w.heap.size + 1) #[.string t] 9 by rw [hW]; exact Blk.new' _ _ (by simp))
  have SA := hid ((h.ext BW.out).take k)
  clear h
  unfold maxLen at hc
  cases a with
  | none =>
    have e9 := ha rfl
    subst e9
    have e8 : n = 0 := by omega
    have e7 : k = 0 := by omega
    subst e8
    subst e7
    have hW2 : W = (w.alloc (.cells #[.int .i64 x, .int .i64 0, .slice none 0 0] 37)).alloc (.cells #[.string t] 9) := hW
    go_enter Tryz.func144, Tryz.ntmps144
    go_wp2_with (go_at_call 156; rw [← hW2]; refine (knowsContains none (l.take 0) 0 0 (w.heap.size + 1) t _ HL.out HC.out KW.out SA.out).mono ?_; rintro e z ⟨rfl, hz⟩; have Z := hid (ext_trans BW.out hz); clear hz)
    go_ret
    exact ⟨rfl, Z.out⟩
  | some ad =>
    go_enter Tryz.func144, Tryz.ntmps144
    go_wp2_with (go_at_call 156; rw [← hW]; refine (knowsContains (some ad) (l.take k) k cap (w.heap.size + 1) t _ HL.out HC.out KW.out SA.out).mono ?_; rintro e z ⟨rfl, hz⟩; have Z := hid (ext_trans BW.out hz); clear hz)
    go_ret
    exact ⟨rfl, Z.out⟩
end Go.Proofs.YtffklmlljekceaaGreat
