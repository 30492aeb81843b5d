/-
  A world is ok: impl.RecWorldOk.
-/
import Derived.Test.YtgjommccflfjaaaWWorld
import Derived.Test.YtgjommccflfjaaaImplValid
import Derived.Test.YtgjommccflfjaaaAcksOk
namespace Go.Proofs.Ytgjommccflfjaaa
open Go.ChangeShapes Go.WideShapes Go.ChangeAt Go.RowKit Go.Deep Go.Joins
set_option linter.unusedVariables false
set_option linter.unusedSimpArgs false

def keysF (l : List Sl) : List Int := l.map fun s => s.1
theorem keysF_at {l : List Sl} {k : Nat} {s : Sl} (h : l[k]? = some s) : (keysF l)[k]? = some s.1 := by simp [keysF, h]
theorem keysF_len (l : List Sl) : (keysF l).length = l.length := by simp [keysF]
def fixOkB (l : List Sl) : Bool := numsOkB 60 (keysF l) && l.all fun s => decide (s.2.size ≤ 100)
def recB (n : Nat) (i : Nat) (r : Rc) : Bool := validB r && decide (r.num = (i : Int) + 1) && decide (r.of_ = (n : Int))
def recsB (l : List Rc) : Bool := (List.range l.length).all fun i => match l[i]? with | some r => recB l.length i r | none => true
def flB (of_ : Nat) (l : List Ms) : Bool := decide (l.length ≤ 600) && l.all fun m => msgOkB m.1 of_ m.2
def worldOkB (d : Wd) : Bool := inB d.recs.length 1 5 && recsB d.recs && flB d.recs.length d.fl && fixOkB d.fx

theorem recs_of {l : List Rc} {n : Nat} (hn : l.length = n) (h : ∀ (i : Nat) r, i < n → l[i]? = some r → recB n i r = true) : recsB l = true := by
  subst hn
  unfold recsB
  rw [List.all_eq_true]
  intro i hi
  have hi' : i < l.length := by simpa using hi
  rw [List.getElem?_eq_getElem hi']
  exact h i _ hi' (List.getElem?_eq_getElem hi')
theorem not_recs {l : List Rc} {n k : Nat} {r : Rc} (hn : l.length = n) (hs : l[k]? = some r) (h : recB n k r = false) : recsB l = false := by
  subst hn
  unfold recsB
  rw [List.all_eq_false]
  exact ⟨k, by simpa using (List.getElem?_eq_some_iff.1 hs).1, by rw [hs]; simp [h]⟩
theorem allL_of {α : Type} {f : α → Bool} {l : List α} {n : Nat} (hn : l.length = n) (h : ∀ (i : Nat) s, i < n → l[i]? = some s → f s = true) : l.all f = true := by
  rw [List.all_eq_true]
  intro s hs
  obtain ⟨i, hi, rfl⟩ := List.getElem_of_mem hs
  exact h i _ (by omega) (List.getElem?_eq_getElem hi)
theorem not_all {α : Type} {f : α → Bool} {l : List α} {k : Nat} {s : α} (hs : l[k]? = some s) (h : f s = false) : l.all f = false := by
  rw [List.all_eq_false]
  exact ⟨s, List.mem_of_getElem? hs, by simp [h]⟩

theorem fixIndex_any (s : Sl) (w : World) :
    Calls Try.prog 78 #[.agg #[.int .i64 s.1, .string s.2]] w fun e w' => e = .returned (.int .i64 s.1) ∧ w' = w.alloc (.cells #[.int .i64 s.1, .string s.2] 67) := by
  go_enter Try.func78, Try.ntmps78
  go_wp2
  go_ret
  exact ⟨rfl, rfl⟩

set_option maxHeartbeats 4000000 in
theorem ascFixs (a : Option Addr) (l : List Sl) (n cap : Nat) (w : World) (hn : l.length = n) (hc : n ≤ maxLen) (h : SlotsAt w a l) :
    Calls Try.prog 77 #[.slice a n cap, .func (.func 78) #[] #[], .int .i64 60] w fun e w' => e = .returned (.bool (numsOkB 60 (keysF l))) ∧ Below w.heap.size w w' := by
  unfold maxLen at hc
  have HL : Hid (l.length = n) := hn
  clear hn
  go_enter Try.func77, Try.ntmps77
  go_wp2
  go_loopw [7, 12] (fun v i wr => ∃ (k : Nat) (L : Int), k ≤ n ∧ i = .int .i64 k ∧ v = .int .i64 L ∧ 0 ≤ L ∧ L ≤ 60 ∧ (k = 0 → L = 0) ∧ (0 < k → (keysF l)[k - 1]? = some L) ∧ (∀ j, j < k → numAtB 60 (keysF l) j = true) ∧ Below w.heap.size w wr) (fun _ i _ => n - (intOf i).toNat)
  case atStart => exact ⟨0, 0, Nat.zero_le _, rfl, rfl, by omega, by omega, fun _ => rfl, fun h => absurd h (by omega), fun j hj => absurd hj (by omega), Below.refl _ _⟩
  case round =>
    obtain ⟨k, L, hk, rfl, rfl, hL0, hL1, q0, q1, hall0, hbel⟩ := hrel
    have HH : Hid ((k = 0 → L = 0) ∧ (0 < k → (keysF l)[k - 1]? = some L) ∧ (∀ j, j < k → numAtB 60 (keysF l) j = true)) := ⟨q0, q1, hall0⟩
    clear q0 q1 hall0
    by_cases hlt : k < n
    · obtain ⟨s, hs0⟩ : ∃ s, l[k]? = some s := ⟨_, List.getElem?_eq_getElem (by rw [HL.out]; exact hlt)⟩
      have hs : Hid (l[k]? = some s) := hs0
      obtain ⟨b, off, rfl, hb, c0, c1, q2, q3⟩ := (h.ext hbel) k s hs0
      have HT : Hid (numAtB 60 (keysF l) k = inB s.1 (L + 1) 60) := asc_test (keysF_at hs0) HH.out.1 HH.out.2.1 hL0
      clear hs0
      have e1 : (0 : Int) ≤ (k : Int) := by omega
      have e2 : (k : Int) < (n : Int) := by omega
      have hkl : Hid (k < (keysF l).length) := by unfold Hid; rw [keysF_len, HL.out]; exact hlt
      cases g1 : inB s.1 (L + 1) 60
      · go_wp2_with (first
          | (go_at_call 22; refine (within_any _ _ _ _).mono ?_; rintro e w' ⟨rfl, rfl⟩)
          | (go_at_call 78; refine (fixIndex_any s _).mono ?_; rintro e w' ⟨rfl, rfl⟩))
        go_ret
        exact ⟨by rw [not_nums_of hkl.out (by rw [HT.out, g1])]; rfl, ext_alloc (ext_alloc hbel _) _⟩
      · have hz := inB_iff.1 g1
        go_wp2_with (first
          | (go_at_call 22; refine (within_any _ _ _ _).mono ?_; rintro e w' ⟨rfl, rfl⟩)
          | (go_at_call 78; refine (fixIndex_any s _).mono ?_; rintro e w' ⟨rfl, rfl⟩))
        go_roundw
        case rel =>
          refine ⟨k + 1, s.1, by omega, by go_num, rfl, by omega, by omega, fun h => absurd h (by omega), fun _ => keysF_at hs.out, fun j hj => ?_, ext_alloc (ext_alloc (ext_alloc hbel _) _) _⟩
          by_cases he : j = k
          · rw [he, HT.out, g1]
          · exact HH.out.2.2 j (by omega)
        case measure => simp [intOf]; omega
    · go_wp2
      go_ret
      exact ⟨by rw [nums_of (by rw [keysF_len, HL.out]) (fun i hi => HH.out.2.2 i (by omega))]; rfl, hbel⟩

set_option maxHeartbeats 4000000 in
theorem implFixedOk (a : Option Addr) (l : List Sl) (n cap : Nat) (w : World) (hn : l.length = n) (hc : n ≤ maxLen) (h : SlotsAt w a l) :
    Calls Try.prog 43 #[.slice a n cap] w fun e w' => e = .returned (.bool (fixOkB l)) ∧ Below w.heap.size w w' := by
  have HC : Hid (n ≤ maxLen) := hc
  unfold maxLen at hc
  have HL : Hid (l.length = n) := hn
  clear hn
  go_enter Try.func43, Try.ntmps43
  go_wp2
  go_loopw [7] (fun i wr => ∃ (k : Nat), k ≤ n ∧ i = .int .i64 k ∧ (∀ (j : Nat) s, j < k → l[j]? = some s → decide (s.2.size ≤ 100) = true) ∧ Below w.heap.size w wr) (fun i _ => n - (intOf i).toNat)
  case atStart => exact ⟨0, Nat.zero_le _, rfl, fun j s hj => absurd hj (by omega), Below.refl _ _⟩
  case round =>
    obtain ⟨k, hk, rfl, hall0, hbel⟩ := hrel
    have hall : Hid (∀ (j : Nat) s, j < k → l[j]? = some s → decide (s.2.size ≤ 100) = true) := hall0
    clear hall0
    by_cases hlt : k < n
    · obtain ⟨s, hs0⟩ : ∃ s, l[k]? = some s := ⟨_, List.getElem?_eq_getElem (by rw [HL.out]; exact hlt)⟩
      have hs : Hid (l[k]? = some s) := hs0
      obtain ⟨b, off, rfl, hb, c0, c1, q2, q3⟩ := (h.ext hbel) k s hs0
      unfold maxLen at q2
      clear hs0
      have e1 : (0 : Int) ≤ (k : Int) := by omega
      have e2 : (k : Int) < (n : Int) := by omega
      by_cases hx : s.2.size ≤ 100
      · go_wp2
        go_roundw
        case rel =>
          refine ⟨k + 1, by omega, by go_num, fun j t hj ht => ?_, ext_alloc hbel _⟩
          by_cases he : j = k
          · subst he; rw [hs.out] at ht; simp only [Option.some.injEq] at ht; rw [← ht]; exact decide_eq_true hx
          · exact hall.out j t (by omega) ht
        case measure => simp [intOf]; omega
      · go_wp2
        go_ret
        exact ⟨by unfold fixOkB; rw [not_all hs.out (decide_eq_false hx), Bool.and_false]; rfl, ext_alloc hbel _⟩
    · go_wp2_with (go_at_call 77; refine (ascFixs a l n cap _ HL.out HC.out (h.ext hbel)).mono ?_; rintro e w' ⟨rfl, hb'⟩)
      go_ret
      refine ⟨?_, ext_trans hbel hb'⟩
      unfold fixOkB
      rw [allL_of HL.out (fun i s hi hs => hall.out i s (by omega) hs), Bool.and_true]
      rfl

set_option maxHeartbeats 4000000 in
theorem implFlightOk (a : Option Addr) (l : List Ms) (n cap of_ : Nat) (w : World) (hn : l.length = n) (hc : n ≤ maxLen) (h : MsgsAt w a l) :
    Calls Try.prog 42 #[.slice a n cap, .int .i64 (of_ : Int)] w fun e w' => e = .returned (.bool (flB of_ l)) ∧ Below w.heap.size w w' := by
  unfold maxLen at hc
  have HL : Hid (l.length = n) := hn
  clear hn
  by_cases hz : n ≤ 600
  · go_enter Try.func42, Try.ntmps42
    go_wp2
    go_loopw [12] (fun i wr => ∃ (k : Nat), k ≤ n ∧ i = .int .i64 k ∧ (∀ (j : Nat) s, j < k → l[j]? = some s → msgOkB s.1 of_ s.2 = true) ∧ Below w.heap.size w wr) (fun i _ => n - (intOf i).toNat)
    case atStart => exact ⟨0, Nat.zero_le _, rfl, fun j s hj => absurd hj (by omega), Below.refl _ _⟩
    case round =>
      obtain ⟨k, hk, rfl, hall0, hbel⟩ := hrel
      have hall : Hid (∀ (j : Nat) s, j < k → l[j]? = some s → msgOkB s.1 of_ s.2 = true) := hall0
      clear hall0
      by_cases hlt : k < n
      · obtain ⟨s, hs0⟩ : ∃ s, l[k]? = some s := ⟨_, List.getElem?_eq_getElem (by rw [HL.out]; exact hlt)⟩
        have hs : Hid (l[k]? = some s) := hs0
        obtain ⟨b, off, sa, cp, rfl, hb, c0, c1, c2, c3, c4, c5, c6, c7, q1, q2, q3⟩ := (h.ext hbel) k s hs0
        clear hs0
        have e1 : (0 : Int) ≤ (k : Int) := by omega
        have e2 : (k : Int) < (n : Int) := by omega
        cases g2 : msgOkB s.1 of_ s.2
        · go_wp2_with (go_at_call 76; refine (implMsgOk s.1 of_ sa s.2 s.2.length cp _ rfl q2 q1 (q3.ext (ext_alloc (Below.refl _ _) _))).mono ?_; rintro e w' ⟨rfl, hb'⟩)
          go_ret
          exact ⟨by unfold flB; rw [not_all hs.out g2, Bool.and_false]; simp [g2], ext_trans (ext_alloc hbel _) hb'⟩
        · go_wp2_with (go_at_call 76; refine (implMsgOk s.1 of_ sa s.2 s.2.length cp _ rfl q2 q1 (q3.ext (ext_alloc (Below.refl _ _) _))).mono ?_; rintro e w' ⟨rfl, hb'⟩)
          go_roundw
          case rel =>
            refine ⟨k + 1, by omega, by go_num, fun j t hj ht => ?_, ext_trans (ext_alloc hbel _) hb'⟩
            by_cases he : j = k
            · subst he; rw [hs.out] at ht; simp only [Option.some.injEq] at ht; rw [← ht]; exact g2
            · exact hall.out j t (by omega) ht
          case measure => simp [intOf]; omega
      · go_wp2
        go_ret
        refine ⟨?_, hbel⟩
        unfold flB
        rw [allL_of HL.out (fun i s hi hs => hall.out i s (by omega) hs), HL.out, decide_eq_true hz]
        rfl
  · go_enter Try.func42, Try.ntmps42
    go_wp2
    go_ret
    exact ⟨by unfold flB; rw [HL.out, decide_eq_false hz]; rfl, Below.refl _ _⟩

set_option maxHeartbeats 4000000 in
theorem implRecordersOk (a : Option Addr) (l : List Rc) (n cap : Nat) (w : World) (hn : l.length = n) (hc : n ≤ maxLen) (h : RecsTo w a l) :
    Calls Try.prog 41 #[.slice a n cap] w fun e w' => e = .returned (.bool (inB n 1 5 && recsB l)) ∧ Below w.heap.size w w' := by
  unfold maxLen at hc
  have HL : Hid (l.length = n) := hn
  clear hn
  cases hz : inB (n : Int) 1 5
  · go_enter Try.func41, Try.ntmps41
    go_wp2_with (go_at_call 22; refine (within_any _ _ _ _).mono ?_; rintro e w' ⟨rfl, hw'⟩; subst w')
    go_ret
    exact ⟨rfl, Below.refl _ _⟩
  · go_enter Try.func41, Try.ntmps41
    go_wp2_with (go_at_call 22; refine (within_any _ _ _ _).mono ?_; rintro e w' ⟨rfl, hw'⟩; subst w')
    go_loopw [11] (fun i wr => ∃ (k : Nat), k ≤ n ∧ i = .int .i64 k ∧ (∀ (j : Nat) s, j < k → l[j]? = some s → recB n j s = true) ∧ Below w.heap.size w wr) (fun i _ => n - (intOf i).toNat)
    case atStart => exact ⟨0, Nat.zero_le _, rfl, fun j s hj => absurd hj (by omega), Below.refl _ _⟩
    case round =>
      obtain ⟨k, hk, rfl, hall0, hbel⟩ := hrel
      have hall : Hid (∀ (j : Nat) s, j < k → l[j]? = some s → recB n j s = true) := hall0
      clear hall0
      by_cases hlt : k < n
      · obtain ⟨s, hs0⟩ : ∃ s, l[k]? = some s := ⟨_, List.getElem?_eq_getElem (by rw [HL.out]; exact hlt)⟩
        have hs : Hid (l[k]? = some s) := hs0
        obtain ⟨b, off, p, rfl, hb, hcs0, hR, hW0⟩ := (h.ext hbel) k s hs0
        have hcs : Hid (wr.rangeAt b (off + k * 18) (rcV s p).toList) := hcs0
        have hW : Hid (s.wish.length ≤ p.cW) := hW0
        clear hs0 hcs0 hW0
        have e1 : (0 : Int) ≤ (k : Int) := by omega
        have e2 : (k : Int) < (n : Int) := by omega
        have q5 := Blk.new wr (rcV s p) 51
        by_cases g1 : s.num = (k : Int) + 1
        · by_cases g2 : s.of_ = (n : Int)
          · cases g3 : validB s
            · go_wp2_with (first
                | ((with_reducible refine wpList_load_imid b (off + k * 18) (rcV s p) rfl ?_ ?_ ?_); (· rfl); (· exact hcs.out))
                | ((with_reducible refine wpList_store_rec (rcV s p) rfl ?_ ?_ ?_ ?_ ?_); (· rfl); (· rfl); (· rfl); (· simp [Value.oneCell']))
                | ((with_reducible refine wpList_load_rec_g wr.heap.size (rcV s p) rfl ?_ ?_ ?_ ?_); (· rfl); (· rfl); (· exact q5))
                | (go_at_call 75; refine (implValid s p _ hW (hR.ext (ext_alloc (Below.refl _ _) _))).mono ?_; rintro e w' ⟨rfl, hb'⟩))
              go_ret
              exact ⟨by rw [not_recs HL.out hs.out (by unfold recB; rw [g3]; rfl)]; simp [g3], ext_trans (ext_alloc hbel _) hb'⟩
            · go_wp2_with (first
                | ((with_reducible refine wpList_load_imid b (off + k * 18) (rcV s p) rfl ?_ ?_ ?_); (· rfl); (· exact hcs.out))
                | ((with_reducible refine wpList_store_rec (rcV s p) rfl ?_ ?_ ?_ ?_ ?_); (· rfl); (· rfl); (· rfl); (· simp [Value.oneCell']))
                | ((with_reducible refine wpList_load_rec_g wr.heap.size (rcV s p) rfl ?_ ?_ ?_ ?_); (· rfl); (· rfl); (· exact q5))
                | (go_at_call 75; refine (implValid s p _ hW (hR.ext (ext_alloc (Below.refl _ _) _))).mono ?_; rintro e w' ⟨rfl, hb'⟩))
              go_roundw
              case rel =>
                refine ⟨k + 1, by omega, by go_num, fun j t hj ht => ?_, ext_trans (ext_alloc hbel _) hb'⟩
                by_cases he : j = k
                · subst he; rw [hs.out] at ht; simp only [Option.some.injEq] at ht; rw [← ht]; unfold recB; rw [g3, decide_eq_true g1, decide_eq_true g2]; rfl
                · exact hall.out j t (by omega) ht
              case measure => simp [intOf]; omega
          · go_wp2_with (first
              | ((with_reducible refine wpList_load_imid b (off + k * 18) (rcV s p) rfl ?_ ?_ ?_); (· rfl); (· exact hcs.out))
              | ((with_reducible refine wpList_store_rec (rcV s p) rfl ?_ ?_ ?_ ?_ ?_); (· rfl); (· rfl); (· rfl); (· simp [Value.oneCell'])))
            go_ret
            exact ⟨by rw [not_recs HL.out hs.out (by unfold recB; rw [decide_eq_false g2, Bool.and_false])]; rfl, ext_alloc hbel _⟩
        · go_wp2_with (first
            | ((with_reducible refine wpList_load_imid b (off + k * 18) (rcV s p) rfl ?_ ?_ ?_); (· rfl); (· exact hcs.out))
            | ((with_reducible refine wpList_store_rec (rcV s p) rfl ?_ ?_ ?_ ?_ ?_); (· rfl); (· rfl); (· rfl); (· simp [Value.oneCell'])))
          go_ret
          exact ⟨by rw [not_recs HL.out hs.out (by unfold recB; rw [decide_eq_false g1, Bool.and_false, Bool.false_and])]; rfl, ext_alloc hbel _⟩
      · go_wp2
        go_ret
        exact ⟨by rw [recs_of HL.out (fun i s hi hs => hall.out i s (by omega) hs)]; rfl, hbel⟩

set_option maxHeartbeats 4000000 in
theorem implWorldOk (d : Wd) (p : WdP) (w : World) (h : WdTo w d p) :
    Calls Try.prog 15 #[.agg (wdV d p)] w fun e w' => e = .returned (.bool (worldOkB d)) ∧ Below w.heap.size w w' := by
  have hB : Below w.heap.size w (w.alloc (.cells (wdV d p) 26)) := ext_alloc (Below.refl _ _) _
  have hR := h.ext hB
  have b0 := Blk.new w (wdV d p) 26
  clear h
  go_enter Try.func15, Try.ntmps15
  go_wp2_with fail
  refine (implRecordersOk p.aR d.recs _ p.cR _ rfl hR.lR hR.hR).mono ?_
  rintro e w0 ⟨rfl, hb0⟩
  have cb0 := (b0.ext hb0).cell
  cases g0 : (inB d.recs.length 1 5 && recsB d.recs)
  · go_wp2_with fail
    go_ret
    exact ⟨by unfold worldOkB; rw [g0]; rfl, ext_trans hB hb0⟩
  go_wp2_with fail
  refine (implFlightOk p.aF d.fl _ p.cF d.recs.length _ rfl hR.lF (hR.ext hb0).hF).mono ?_
  rintro e w1 ⟨rfl, hb1⟩
  have HB1 := ext_trans hb0 hb1
  have cb1 := (b0.ext HB1).cell
  clear cb0
  cases g1 : flB d.recs.length d.fl
  · go_wp2_with fail
    go_ret
    exact ⟨by unfold worldOkB; rw [g0, g1]; rfl, ext_trans hB HB1⟩
  go_wp2_with fail
  refine (implFixedOk p.aX d.fx _ p.cX _ rfl hR.lX (hR.ext HB1).hX).mono ?_
  rintro e w2 ⟨rfl, hb2⟩
  have HB2 := ext_trans HB1 hb2
  clear cb1
  go_wp2_with fail
  go_ret
  exact ⟨by unfold worldOkB; rw [g0, g1, Bool.true_and, Bool.true_and]; rfl, ext_trans hB HB2⟩
end Go.Proofs.Ytgjommccflfjaaa
