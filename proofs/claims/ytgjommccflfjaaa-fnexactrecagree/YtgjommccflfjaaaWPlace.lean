/-
  A place sought in what is fixed: slices.BinarySearchFunc, impl.fixPlace, impl.fixedAs, spec.l7Fixed.
-/
import Derived.Test.YtgjommccflfjaaaWOkI
import Derived.WalkArith
namespace Go.Proofs.Ytgjommccflfjaaa
open Go.ChangeShapes Go.WideShapes Go.ChangeAt Go.RowKit Go.Deep Go.Joins
set_option linter.unusedVariables false
set_option linter.unusedSimpArgs false

def cmpI (x y : Int) : Int := if x < y then -1 else if y < x then 1 else 0
theorem isNaN_any (x : Int) (w : World) : Calls Try.prog 122 #[.int .i64 x] w fun e w' => e = .returned (.bool false) ∧ w' = w := by
  go_enter Try.func122, Try.ntmps122
  go_wp2
  go_ret
  exact ⟨rfl, rfl⟩
set_option maxHeartbeats 1000000 in
theorem compare_any (x y : Int) (w : World) : Calls Try.prog 120 #[.int .i64 x, .int .i64 y] w fun e w' => e = .returned (.int .i64 (cmpI x y)) ∧ w' = w := by
  by_cases h1 : x < y
  · go_enter Try.func120, Try.ntmps120
    go_wp2_with (go_at_call 122; refine (isNaN_any _ _).mono ?_; rintro e w' ⟨rfl, hw'⟩; subst w')
    go_ret
    exact ⟨by simp only [cmpI, if_pos h1]; rfl, rfl⟩
  · by_cases h2 : y < x
    · go_enter Try.func120, Try.ntmps120
      go_wp2_with (go_at_call 122; refine (isNaN_any _ _).mono ?_; rintro e w' ⟨rfl, hw'⟩; subst w')
      go_ret
      exact ⟨by simp only [cmpI, if_neg (show ¬ x < y by omega), if_pos h2]; rfl, rfl⟩
    · go_enter Try.func120, Try.ntmps120
      go_wp2_with (go_at_call 122; refine (isNaN_any _ _).mono ?_; rintro e w' ⟨rfl, hw'⟩; subst w')
      go_ret
      exact ⟨by simp only [cmpI, if_neg (show ¬ x < y by omega), if_neg (show ¬ y < x by omega)]; rfl, rfl⟩
theorem fixCmp_any (s : Sl) (ix : Int) (w : World) :
    Calls Try.prog 119 #[.agg #[.int .i64 s.1, .string s.2], .int .i64 ix] w fun e w' => e = .returned (.int .i64 (cmpI s.1 ix)) ∧ w' = w.alloc (.cells #[.int .i64 s.1, .string s.2] 67) := by
  go_enter Try.func119, Try.ntmps119
  go_wp2_with (go_at_call 120; refine (compare_any _ _ _).mono ?_; rintro e w' ⟨rfl, hw'⟩; subst w')
  go_ret
  exact ⟨rfl, rfl⟩

/-- the keys ascend -/
def AscF (l : List Sl) : Prop := ∀ (i j : Nat) s t, l[i]? = some s → l[j]? = some t → i < j → s.1 < t.1

set_option maxHeartbeats 4000000 in
theorem searchFix (a : Option Addr) (l : List Sl) (n cap : Nat) (ix : Int) (w : World) (hn : l.length = n) (hc : n ≤ 1048576) (hasc0 : AscF l) (h : SlotsAt w a l) :
    Calls Try.prog 118 #[.slice a n cap, .int .i64 ix, .func (.func 119) #[] #[]] w fun e w' => (∃ (i : Nat) (b : Bool), e = .returned (.tuple #[.int .i64 (i : Int), .bool b]) ∧ i ≤ n ∧ (b = true ↔ ∃ s, l[i]? = some s ∧ s.1 = ix) ∧ (∀ (q : Nat) s, l[q]? = some s → q < i → s.1 < ix) ∧ (∀ (q : Nat) s, l[q]? = some s → i ≤ q → ix ≤ s.1)) ∧ Below w.heap.size w w' := by
  have HL : Hid (l.length = n) := hn
  have hasc : Hid (AscF l) := hasc0
  clear hn hasc0
  go_enter Try.func118, Try.ntmps118
  go_wp2
  go_loopw [9, 10] (fun i j wr => ∃ (x y : Nat), i = .int .i64 (x : Int) ∧ j = .int .i64 (y : Int) ∧ x ≤ y ∧ y ≤ n ∧ (∀ (q : Nat) s, l[q]? = some s → q < x → s.1 < ix) ∧ (∀ (q : Nat) s, l[q]? = some s → y ≤ q → ix ≤ s.1) ∧ Below w.heap.size w wr) (fun i j _ => (intOf j).toNat - (intOf i).toNat)
  case atStart => exact ⟨0, n, rfl, rfl, Nat.zero_le _, Nat.le_refl _, fun q s _ hq => absurd hq (by omega), fun q s hq hle => by have := (List.getElem?_eq_some_iff.1 hq).1; have := HL.out; omega, Below.refl _ _⟩
  case round =>
    obtain ⟨x, y, rfl, rfl, hxy, hyn, hlo0, hhi0, hbel⟩ := hrel
    have hlo : Hid (∀ (q : Nat) s, l[q]? = some s → q < x → s.1 < ix) := hlo0
    have hhi : Hid (∀ (q : Nat) s, l[q]? = some s → y ≤ q → ix ≤ s.1) := hhi0
    clear hlo0 hhi0
    by_cases hlt : x < y
    · obtain ⟨s, hs0⟩ : ∃ s, l[(x + y) / 2]? = some s := ⟨_, List.getElem?_eq_getElem (by rw [HL.out]; omega)⟩
      have hs : Hid (l[(x + y) / 2]? = some s) := hs0
      obtain ⟨b, off, rfl, hb, c0, c1, q2, q3⟩ := (h.ext hbel) _ s hs0
      clear hs0
      have e1 : (0 : Int) ≤ ((x : Int) + (y : Int)) / 2 := by omega
      have e2 : ((x : Int) + (y : Int)) / 2 < (n : Int) := by omega
      have e3 : (x + y) / 2 < n := by omega
      have e4 : (x + y) / 2 < y := by omega
      have e5 : x ≤ (x + y) / 2 := by omega
      by_cases hk : s.1 < ix
      · have hcm : cmpI s.1 ix = -1 := by simp [cmpI, hk]
        go_wp2_with (go_at_call 119; refine (fixCmp_any s ix _).mono ?_; rintro e w' ⟨rfl, hw'⟩; subst w')
        go_roundw
        case rel =>
          refine ⟨(x + y) / 2 + 1, y, by simp only [Value.int.injEq, true_and]; omega, rfl, by omega, hyn, fun q t hq hlt2 => ?_, hhi.out, ext_alloc hbel _⟩
          by_cases he : q = (x + y) / 2
          · rw [he, hs.out] at hq
            simp only [Option.some.injEq] at hq
            rw [← hq]
            exact hk
          · have := hasc.out q ((x + y) / 2) t s hq hs.out (by omega)
            omega
        case measure => simp [intOf]; omega
      · have hcm : Hid (0 ≤ cmpI s.1 ix) := by unfold Hid cmpI; split <;> (try split) <;> omega
        have hcm2 := hcm.out
        go_wp2_with (go_at_call 119; refine (fixCmp_any s ix _).mono ?_; rintro e w' ⟨rfl, hw'⟩; subst w')
        go_roundw
        case rel =>
          refine ⟨x, (x + y) / 2, rfl, by simp only [Value.int.injEq, true_and]; omega, by omega, by omega, hlo.out, fun q t hq hle => ?_, ext_alloc hbel _⟩
          by_cases he : q = (x + y) / 2
          · rw [he, hs.out] at hq
            simp only [Option.some.injEq] at hq
            rw [← hq]
            omega
          · have := hasc.out ((x + y) / 2) q s t hs.out hq (by omega)
            omega
        case measure => simp [intOf]; omega
    · have hxe : x = y := by omega
      subst hxe
      by_cases hxn : x < n
      · have v7 : decide ((x : Int) < (n : Int)) = true := decide_eq_true (by omega)
        obtain ⟨s, hs0⟩ : ∃ s, l[x]? = some s := ⟨_, List.getElem?_eq_getElem (by rw [HL.out]; omega)⟩
        have hs : Hid (l[x]? = some s) := hs0
        obtain ⟨b, off, rfl, hb, c0, c1, q2, q3⟩ := (h.ext hbel) _ s hs0
        clear hs0
        have e1 : (0 : Int) ≤ (x : Int) := by omega
        have e2 : (x : Int) < (n : Int) := by omega
        by_cases hk : s.1 = ix
        · have hcm : cmpI s.1 ix = 0 := by simp [cmpI, hk]
          have HK : Hid (s.1 = ix) := hk
          clear hk
          go_wp2_with (go_at_call 119; refine (fixCmp_any s ix _).mono ?_; rintro e w' ⟨rfl, hw'⟩; subst w')
          refine bodyPost_ret (v := .tuple #[.int .i64 (x : Int), .bool true]) (by simp [results, Try.results118, go_sem]) rfl ⟨⟨x, true, rfl, hyn, ⟨fun _ => ⟨s, hs.out, HK.out⟩, fun _ => rfl⟩, hlo.out, hhi.out⟩, ext_alloc hbel _⟩
        · have hcm : (cmpI s.1 ix == 0) = false := by
            unfold cmpI
            split
            · rfl
            · split
              · rfl
              · exact absurd (by omega) hk
          have HK : Hid (¬ s.1 = ix) := hk
          clear hk
          go_wp2_with (go_at_call 119; refine (fixCmp_any s ix _).mono ?_; rintro e w' ⟨rfl, hw'⟩; subst w')
          refine bodyPost_ret (v := .tuple #[.int .i64 (x : Int), .bool false]) (by simp [results, Try.results118, go_sem]) rfl ⟨⟨x, false, rfl, hyn, ⟨(fun h => by cases h), fun ⟨t, ht, hte⟩ => ?_⟩, hlo.out, hhi.out⟩, ext_alloc hbel _⟩
          rw [hs.out] at ht
          simp only [Option.some.injEq] at ht
          subst ht
          exact absurd hte HK.out
      · have v7 : decide ((x : Int) < (n : Int)) = false := decide_eq_false (by omega)
        go_wp2
        refine bodyPost_ret (v := .tuple #[.int .i64 (x : Int), .bool false]) (by simp [results, Try.results118, go_sem]) rfl ⟨⟨x, false, rfl, hyn, ⟨(fun h => by cases h), fun ⟨t, ht, hte⟩ => ?_⟩, hlo.out, hhi.out⟩, hbel⟩
        have := (List.getElem?_eq_some_iff.1 ht).1
        have := HL.out
        omega

/-- what is fixed for a place -/
def fixO (l : List Sl) (ix : Int) : Option Sl := l.find? fun s => decide (s.1 = ix)
def fixAs (l : List Sl) (ix : Int) (t : ByteArray) : Bool := match fixO l ix with | some s => s.2.toList == t.toList | none => false
theorem fixO_at {l : List Sl} {ix : Int} {i : Nat} {s : Sl} (ha : AscF l) (hs : l[i]? = some s) (he : s.1 = ix) : fixO l ix = some s := by
  unfold fixO
  cases hf : l.find? (fun s => decide (s.1 = ix)) with
  | none => exact absurd he (by simpa using List.find?_eq_none.1 hf s (List.mem_of_getElem? hs))
  | some t =>
    have ht : t.1 = ix := by simpa using List.find?_some hf
    obtain ⟨j, hj, hjt⟩ := List.getElem_of_mem (List.mem_of_find?_eq_some hf)
    have hj' : l[j]? = some t := by rw [List.getElem?_eq_getElem hj, hjt]
    rcases Nat.lt_trichotomy i j with h | h | h
    · have := ha i j s t hs hj' h; omega
    · subst h; rw [hs] at hj'; exact hj'.symm
    · have := ha j i t s hj' hs h; omega
theorem fixO_none {l : List Sl} {ix : Int} (h : ∀ (i : Nat) s, l[i]? = some s → s.1 ≠ ix) : fixO l ix = none := by
  unfold fixO
  rw [List.find?_eq_none]
  intro s hs
  obtain ⟨i, hi, rfl⟩ := List.getElem_of_mem hs
  simpa using h i _ (List.getElem?_eq_getElem hi)
theorem asc_adj {ks : List Int} (h : ∀ i, 0 < i → i < ks.length → ks.getD (i - 1) 0 < ks.getD i 0) : ∀ (d i : Nat), i + d + 1 < ks.length → ks.getD i 0 < ks.getD (i + d + 1) 0
  | 0, i, hl => by have := h (i + 1) (by omega) (by omega); simpa using this
  | d + 1, i, hl => by
    have h1 := asc_adj h d i (by omega)
    have h2 := h (i + (d + 1) + 1) (by omega) hl
    have e : i + (d + 1) + 1 - 1 = i + d + 1 := by omega
    rw [e] at h2
    omega
theorem asc_of {l : List Sl} (h : fixOkB l = true) : AscF l := fun i j s t hs ht hij => by
  unfold fixOkB at h
  simp only [Bool.and_eq_true] at h
  have hn := h.1
  unfold numsOkB at hn
  rw [List.all_eq_true] at hn
  have hj : j < l.length := (List.getElem?_eq_some_iff.1 ht).1
  have adj : ∀ i, 0 < i → i < (keysF l).length → (keysF l).getD (i - 1) 0 < (keysF l).getD i 0 := fun i hi hl => by
    have := hn i (by simpa using hl)
    unfold numAtB at this
    simp only [Bool.and_eq_true, Bool.or_eq_true, decide_eq_true_eq] at this
    rcases this.2 with h0 | h0
    · omega
    · exact h0
  obtain ⟨d, rfl⟩ : ∃ d, j = i + d + 1 := ⟨j - i - 1, by omega⟩
  have := asc_adj adj d i (by rw [keysF_len]; exact hj)
  simpa [List.getD, keysF_at hs, keysF_at ht] using this

set_option maxHeartbeats 2000000 in
theorem implFixPlace (a : Option Addr) (l : List Sl) (n cap : Nat) (ix : Int) (w : World) (hn : l.length = n) (hc : n ≤ 1048576) (hasc : AscF l) (h : SlotsAt w a l) :
    Calls Try.prog 105 #[.slice a n cap, .int .i64 ix] w fun e w' => (∃ (i : Nat) (b : Bool), e = .returned (.tuple #[.int .i64 (i : Int), .bool b]) ∧ i ≤ n ∧ (b = true ↔ ∃ s, l[i]? = some s ∧ s.1 = ix) ∧ (∀ (q : Nat) s, l[q]? = some s → q < i → s.1 < ix) ∧ (∀ (q : Nat) s, l[q]? = some s → i ≤ q → ix ≤ s.1)) ∧ Below w.heap.size w w' := by
  go_enter Try.func105, Try.ntmps105
  go_wp2_with fail
  refine (searchFix a l n cap ix w hn hc hasc h).mono ?_
  rintro e w1 ⟨⟨i, b, rfl, hr⟩, hb1⟩
  go_wp2_with fail
  exact bodyPost_ret (v := .tuple #[.int .i64 (i : Int), .bool b]) (by simp [results, Try.results105, go_sem]) rfl ⟨⟨i, b, rfl, hr⟩, hb1⟩

set_option maxHeartbeats 2000000 in
theorem implFixedAs (a : Option Addr) (l : List Sl) (n cap : Nat) (ix : Int) (t : ByteArray) (w : World) (hn : l.length = n) (hc : n ≤ 1048576) (hasc0 : AscF l) (h : SlotsAt w a l) :
    Calls Try.prog 80 #[.slice a n cap, .int .i64 ix, .string t] w fun e w' => e = .returned (.bool (fixAs l ix t)) ∧ Below w.heap.size w w' := by
  have HL : Hid (l.length = n) := hn
  have hasc : Hid (AscF l) := hasc0
  clear hn hasc0
  go_enter Try.func80, Try.ntmps80
  go_wp2_with fail
  refine (implFixPlace a l n cap ix w HL.out hc hasc.out h).mono ?_
  rintro e w1 ⟨⟨i, b, rfl, hin, hb, hlo0, hhi0⟩, hb1⟩
  have hlo : Hid (∀ (q : Nat) s, l[q]? = some s → q < i → s.1 < ix) := hlo0
  have hhi : Hid (∀ (q : Nat) s, l[q]? = some s → i ≤ q → ix ≤ s.1) := hhi0
  have HB : Hid (b = true ↔ ∃ s, l[i]? = some s ∧ s.1 = ix) := hb
  clear hlo0 hhi0 hb
  cases b
  · have hno : fixO l ix = none := fixO_none fun q s hs he => by
      rcases Nat.lt_trichotomy q i with h1 | h1 | h1
      · have := hlo.out q s hs h1; omega
      · subst h1; exact absurd (HB.out.2 ⟨s, hs, he⟩) (by simp)
      · obtain ⟨u, hu⟩ : ∃ u, l[i]? = some u := ⟨_, List.getElem?_eq_getElem (by have := (List.getElem?_eq_some_iff.1 hs).1; omega)⟩
        have h2 := hasc.out i q u s hu hs h1
        have h3 := hhi.out i u hu (Nat.le_refl _)
        omega
    have hfa : Hid (fixAs l ix t = false) := by unfold Hid fixAs; rw [hno]
    clear hno
    go_wp2_with fail
    go_ret
    exact ⟨by rw [hfa.out]; rfl, hb1⟩
  · obtain ⟨s, hs0, he⟩ := HB.out.1 rfl
    have hfa : Hid (fixAs l ix t = (s.2.toList == t.toList)) := by unfold Hid fixAs; rw [fixO_at hasc.out hs0 he]
    obtain ⟨b, off, rfl, hb, c0, c1, q2, q3⟩ := (h.ext hb1) _ s hs0
    have hlt : i < n := by have := (List.getElem?_eq_some_iff.1 hs0).1; have := HL.out; omega
    have e1 : (0 : Int) ≤ (i : Int) := by omega
    have e2 : (i : Int) < (n : Int) := by omega
    clear hs0 he
    go_wp2_with fail
    go_ret
    exact ⟨by rw [hfa.out]; rfl, hb1⟩

def fixR (l : List Sl) (ix : Int) : ByteArray × Bool := match fixO l ix with | some s => (s.2, true) | none => (⟨#[]⟩, false)
theorem find_first {l : List Sl} {ix : Int} {k : Nat} {s : Sl} (hs : l[k]? = some s) (he : s.1 = ix) (h : ∀ (j : Nat) t, j < k → l[j]? = some t → t.1 ≠ ix) : fixO l ix = some s := by
  unfold fixO
  have hk : k < l.length := (List.getElem?_eq_some_iff.1 hs).1
  have hg : l[k] = s := (List.getElem?_eq_some_iff.1 hs).2
  rw [List.find?_eq_some_iff_getElem]
  exact ⟨by simpa using he, k, hk, hg, fun j hj => by simpa using h j _ hj (List.getElem?_eq_getElem (by omega))⟩

set_option maxHeartbeats 4000000 in
theorem specFixed (d : Wd) (p : WdP) (ix : Int) (w : World) (hS0 : WdSmall d) (h : WdAt w d p) :
    Calls Try.prog 47 #[.agg (wdV d p), .int .i64 ix] w fun e w' => e = .returned (.tuple #[.string (fixR d.fx ix).1, .bool (fixR d.fx ix).2]) ∧ Below w.heap.size w w' := by
  have l3 := hS0.lX
  clear hS0
  have hB : Below w.heap.size w (w.alloc (.cells (wdV d p) 26)) := ext_alloc (Below.refl _ _) _
  have hR := h.ext hB
  have b0 := Blk.new w (wdV d p) 26
  clear h
  obtain ⟨aR, cR, aF, cF, aX, cX⟩ := p
  go_enter Try.func47, Try.ntmps47
  go_wp2
  go_loopw [6] (fun i wr => ∃ (k : Nat), k ≤ d.fx.length ∧ i = .int .i64 k ∧ (∀ (j : Nat) t, j < k → d.fx[j]? = some t → t.1 ≠ ix) ∧ Below (w.alloc (.cells (wdV d ⟨aR, cR, aF, cF, aX, cX⟩) 26)).heap.size (w.alloc (.cells (wdV d ⟨aR, cR, aF, cF, aX, cX⟩) 26)) wr) (fun i _ => d.fx.length - (intOf i).toNat)
  case atStart => exact ⟨0, Nat.zero_le _, rfl, fun j t hj => absurd hj (by omega), Below.refl _ _⟩
  case round =>
    obtain ⟨k, hk, rfl, hall0, hbel⟩ := hrel
    have hall : Hid (∀ (j : Nat) t, j < k → d.fx[j]? = some t → t.1 ≠ ix) := hall0
    clear hall0
    have cb := (b0.ext hbel).cell
    by_cases hlt : k < d.fx.length
    · obtain ⟨s, hs0⟩ : ∃ s, d.fx[k]? = some s := ⟨_, List.getElem?_eq_getElem hlt⟩
      have hs : Hid (d.fx[k]? = some s) := hs0
      obtain ⟨b, off, ha, hb, c0, c1, q1, q2⟩ := (hR.ext hbel).hX k s hs0
      simp only at ha
      subst ha
      clear hs0
      have e1 : (0 : Int) ≤ (k : Int) := by omega
      have e2 : (k : Int) < (d.fx.length : Int) := by omega
      by_cases he : s.1 = ix
      · have hf : fixR d.fx ix = (s.2, true) := by unfold fixR; rw [find_first hs.out he hall.out]
        subst he
        go_wp2
        exact bodyPost_ret (v := .tuple #[.string s.2, .bool true]) (by simp [results, Try.results47, go_sem]) rfl ⟨by rw [hf], ext_trans hB hbel⟩
      · go_wp2
        go_roundw
        case rel =>
          refine ⟨k + 1, by omega, by go_num, fun j t hj ht => ?_, hbel⟩
          by_cases hjk : j = k
          · subst hjk; rw [hs.out] at ht; simp only [Option.some.injEq] at ht; rw [← ht]; exact he
          · exact hall.out j t (by omega) ht
        case measure => simp [intOf]; omega
    · have hf : fixR d.fx ix = (⟨#[]⟩, false) := by unfold fixR; rw [fixO_none (fun i s hs => hall.out i s (by have := (List.getElem?_eq_some_iff.1 hs).1; omega) hs)]
      go_wp2
      exact bodyPost_ret (v := .tuple #[.string ⟨#[]⟩, .bool false]) (by simp [results, Try.results47, go_sem]) rfl ⟨by rw [hf], ext_trans hB hbel⟩
end Go.Proofs.Ytgjommccflfjaaa
