/-
  When slots are ok: impl.slotOk, impl.slotsOk, spec.l1SlotsOk.
-/
import Derived.Test.YtffklmlljekceaaGreatSlots
namespace Go.Proofs.YtffklmlljekceaaGreat
open Go.ChangeShapes Go.WideShapes Go.ChangeAt Go.RowKit
set_option linter.unusedVariables false
set_option linter.unusedSimpArgs false

/-- a slot is ok -/
def slotOkB (s : Sl) : Bool := inB s.1 0 1000000 && decide ((s.2.size : Int) ≤ 100) && (!decide (s.1 = 0) || s.2.toList.isEmpty)
def slotsOkB (l : List Sl) : Bool := decide (l.length ≤ 60) && l.all slotOkB
theorem empty_size {t : ByteArray} (h : t.toList.isEmpty = true) : t.size = 0 := by
  rw [ByteArray.toList_eq, List.isEmpty_iff] at h
  have := congrArg List.length h
  simpa using this
theorem slotOkB_zero (t : ByteArray) : slotOkB (0, t) = t.toList.isEmpty := by
  cases h : t.toList.isEmpty
  · simp [slotOkB, h]
  · simp [slotOkB, h, inB, empty_size h]
theorem slotOkB_pos {b : Int} (t : ByteArray) (hb : ¬ b = 0) : slotOkB (b, t) = (inB b 1 1000000 && decide ((t.size : Int) ≤ 100)) := by
  have : inB b 0 1000000 = inB b 1 1000000 := by
    rw [Bool.eq_iff_iff, inB_iff, inB_iff]; omega
  simp [slotOkB, hb, this]
theorem all_of {l : List Sl} {f : Sl → Bool} {n : Nat} (hn : l.length = n) (h : ∀ (i : Nat) s, i < n → l[i]? = some s → f s = true) : l.all f = true := by
  rw [List.all_eq_true]
  intro s hs
  obtain ⟨i, hi, rfl⟩ := List.getElem_of_mem hs
  exact h i _ (by omega) (List.getElem?_eq_getElem hi)
theorem not_all_of {l : List Sl} {f : Sl → Bool} {k : Nat} {s : Sl} (hs : l[k]? = some s) (h : f s = false) : l.all f = false := by
  rw [List.all_eq_false]
  exact ⟨s, List.mem_of_getElem? hs, by simp [h]⟩

set_option maxHeartbeats 400000 in
theorem slotOk_any (b : Int) (t : ByteArray) (w : World) (ht : t.size ≤ maxLen) :
    Calls Tryz.prog 129 #[.agg #[.int .i64 b, .string t]] w fun e w' => e = .returned (.bool (slotOkB (b, t))) ∧ w' = w.alloc (.cells #[.int .i64 b, .string t] 108) := by
  unfold maxLen at ht
  by_cases hb : b = 0
  · subst hb
    rw [slotOkB_zero]
    go_enter Tryz.func129, Tryz.ntmps129
    go_wp2
    go_ret
    exact ⟨rfl, rfl⟩
  · have hb' : (b == 0) = false := beq_eq_false_iff_ne.2 hb
    rw [slotOkB_pos t hb]
    cases h1 : inB b 1 1000000
    · go_enter Tryz.func129, Tryz.ntmps129
      go_wp2_with (go_at_call 89; refine (within_any _ _ _ _).mono ?_; rintro e w' ⟨rfl, rfl⟩)
      go_ret
      exact ⟨rfl, rfl⟩
    · go_enter Tryz.func129, Tryz.ntmps129
      go_wp2_with (go_at_call 89; refine (within_any _ _ _ _).mono ?_; rintro e w' ⟨rfl, rfl⟩)
      go_ret
      exact ⟨by simp, rfl⟩

set_option maxHeartbeats 400000 in
theorem implSlotsOk (a : Option Addr) (l : List Sl) (n cap : Nat) (w : World) (hn : l.length = n) (hc : n ≤ maxLen) (h : SlotsAt w a l) :
    Calls Tryz.prog 91 #[.slice a n cap] w fun e w' => e = .returned (.bool (slotsOkB l)) ∧ Below w.heap.size w w' := by
  unfold maxLen at hc
  have HL : Hid (l.length = n) := hn
  clear hn
  by_cases hz : n ≤ 60
  · have HA : Hid (slotsOkB l = l.all slotOkB) := by unfold Hid slotsOkB; rw [HL.out]; simp [hz]
    go_enter Tryz.func91, Tryz.ntmps91
    go_wp2
    go_loopw [10] (fun i wr => ∃ (k : Nat), k ≤ n ∧ i = .int .i64 k ∧ (∀ (i : Nat) s, i < k → l[i]? = some s → slotOkB s = true) ∧ Below w.heap.size w wr) (fun i _ => n - (intOf i).toNat)
    case atStart => exact ⟨0, Nat.zero_le _, rfl, fun i s hi => absurd hi (by omega), Below.refl _ _⟩
    case round =>
      obtain ⟨k, hk, rfl, hall0, hbel⟩ := hrel
      have hall : Hid (∀ (i : Nat) s, i < k → l[i]? = some s → slotOkB s = true) := hall0
      clear hall0
      by_cases hlt : k < n
      · obtain ⟨s, hs0⟩ : ∃ s, l[k]? = some s := ⟨_, List.getElem?_eq_getElem (by rw [HL.out]; exact hlt)⟩
        obtain ⟨b, off, rfl, hb, c0, c1, ht, _⟩ := (h.ext hbel) k s hs0
        have hs : Hid (l[k]? = some s) := hs0
        clear hs0
        obtain ⟨sb, st⟩ := s
        cases hok : slotOkB (sb, st)
        · go_wp2_with (go_at_call 129; refine (slotOk_any _ _ _ ht).mono ?_; rintro e w' ⟨rfl, rfl⟩)
          go_ret
          exact ⟨by rw [HA.out, not_all_of hs.out hok]; rfl, ext_alloc (ext_alloc hbel _) _⟩
        · go_wp2_with (go_at_call 129; refine (slotOk_any _ _ _ ht).mono ?_; rintro e w' ⟨rfl, rfl⟩)
          go_roundw
          case rel =>
            refine ⟨k + 1, by omega, by go_num, fun i u hi hu => ?_, ext_alloc (ext_alloc hbel _) _⟩
            by_cases he : i = k
            · subst he; rw [hs.out] at hu; simp only [Option.some.injEq] at hu; rw [← hu]; exact hok
            · exact hall.out i u (by omega) hu
          case measure => simp [intOf]; omega
      · go_wp2
        go_ret
        exact ⟨by rw [HA.out, all_of HL.out (fun i s hi hs => hall.out i s (by omega) hs)]; rfl, hbel⟩
  · have HA : Hid (slotsOkB l = false) := by unfold Hid slotsOkB; rw [HL.out]; simp [hz]
    go_enter Tryz.func91, Tryz.ntmps91
    go_wp2
    go_ret
    exact ⟨by rw [HA.out]; rfl, Below.refl _ _⟩

theorem slot_cases (b : Int) (t : ByteArray) :
    (inB b 0 1000000 = false ∧ slotOkB (b, t) = false) ∨ (inB b 0 1000000 = true ∧ (100 : Int) < (t.size : Int) ∧ slotOkB (b, t) = false) ∨
    (inB b 0 1000000 = true ∧ (t.size : Int) ≤ 100 ∧ b = 0 ∧ t.toList.isEmpty = false ∧ slotOkB (b, t) = false) ∨
    (inB b 0 1000000 = true ∧ (t.size : Int) ≤ 100 ∧ b = 0 ∧ t.toList.isEmpty = true ∧ slotOkB (b, t) = true) ∨
    (inB b 0 1000000 = true ∧ (t.size : Int) ≤ 100 ∧ (b == 0) = false ∧ slotOkB (b, t) = true) := by
  cases h1 : inB b 0 1000000
  · exact .inl ⟨rfl, by simp [slotOkB, h1]⟩
  · by_cases h2 : (t.size : Int) ≤ 100
    · by_cases h3 : b = 0
      · cases h4 : t.toList.isEmpty
        · exact .inr (.inr (.inl ⟨rfl, h2, h3, rfl, by simp [slotOkB, h1, h3, h4]⟩))
        · exact .inr (.inr (.inr (.inl ⟨rfl, h2, h3, rfl, by simp [slotOkB, h1, h2, h4]⟩)))
      · exact .inr (.inr (.inr (.inr ⟨rfl, h2, beq_eq_false_iff_ne.2 h3, by simp [slotOkB, h1, h2, h3]⟩)))
    · exact .inr (.inl ⟨rfl, by omega, by simp [slotOkB, h2]⟩)

set_option maxHeartbeats 1000000 in
theorem specSlotsOk (a : Option Addr) (l : List Sl) (n cap : Nat) (w : World) (hn : l.length = n) (hc : n ≤ maxLen) (h : SlotsAt w a l) :
    Calls Tryz.prog 74 #[.slice a n cap] w fun e w' => e = .returned (.bool (slotsOkB l)) ∧ w' = w := by
  unfold maxLen at hc
  have HL : Hid (l.length = n) := hn
  clear hn
  by_cases hz : n ≤ 60
  · have HA : Hid (slotsOkB l = l.all slotOkB) := by unfold Hid slotsOkB; rw [HL.out]; simp [hz]
    go_enter Tryz.func74, Tryz.ntmps74
    go_wp2
    go_loop [3] (fun i => ∃ (k : Nat), k ≤ n ∧ i = .int .i64 k ∧ (∀ (i : Nat) s, i < k → l[i]? = some s → slotOkB s = true)) (fun i => n - (intOf i).toNat)
    case atStart => exact ⟨0, Nat.zero_le _, rfl, fun i s hi => absurd hi (by omega)⟩
    case round =>
      obtain ⟨k, hk, rfl, hall0⟩ := hrel
      have hall : Hid (∀ (i : Nat) s, i < k → l[i]? = some s → slotOkB s = true) := hall0
      clear hall0
      by_cases hlt : k < n
      · obtain ⟨s, hs0⟩ : ∃ s, l[k]? = some s := ⟨_, List.getElem?_eq_getElem (by rw [HL.out]; exact hlt)⟩
        obtain ⟨b, off, rfl, hb, c0, c1, ht, _⟩ := h k s hs0
        unfold maxLen at ht
        have hs : Hid (l[k]? = some s) := hs0
        clear hs0
        obtain ⟨sb, st⟩ := s
        simp only at c0 c1 ht
        rcases slot_cases sb st with ⟨g1, hok⟩ | ⟨g1, g2, hok⟩ | ⟨g1, g2, g3, g4, hok⟩ | ⟨g1, g2, g3, g4, hok⟩ | ⟨g1, g2, g3, hok⟩
        · have HK : Hid (slotOkB (sb, st) = false) := hok
          clear hok
          go_wp2_with (go_at_call 70; refine (l1In_any _ _ _ _).mono ?_; rintro e w' ⟨rfl, rfl⟩)
          go_ret
          exact ⟨by rw [HA.out, not_all_of hs.out HK.out]; rfl, rfl⟩
        · have HK : Hid (slotOkB (sb, st) = false) := hok
          clear hok
          go_wp2_with (go_at_call 70; refine (l1In_any _ _ _ _).mono ?_; rintro e w' ⟨rfl, rfl⟩)
          go_ret
          exact ⟨by rw [HA.out, not_all_of hs.out HK.out]; rfl, rfl⟩
        · have HK : Hid (slotOkB (sb, st) = false) := hok
          clear hok
          subst g3
          go_wp2_with (go_at_call 70; refine (l1In_any _ _ _ _).mono ?_; rintro e w' ⟨rfl, rfl⟩)
          go_ret
          exact ⟨by rw [HA.out, not_all_of hs.out HK.out]; rfl, rfl⟩
        · have HK : Hid (slotOkB (sb, st) = true) := hok
          clear hok
          subst g3
          go_wp2_with (go_at_call 70; refine (l1In_any _ _ _ _).mono ?_; rintro e w' ⟨rfl, rfl⟩)
          go_round
          case rel =>
            refine ⟨k + 1, by omega, by go_num, fun i u hi hu => ?_⟩
            by_cases he : i = k
            · subst he; rw [hs.out] at hu; simp only [Option.some.injEq] at hu; rw [← hu]; exact HK.out
            · exact hall.out i u (by omega) hu
          case measure => simp [intOf]; omega
        · have HK : Hid (slotOkB (sb, st) = true) := hok
          clear hok
          go_wp2_with (go_at_call 70; refine (l1In_any _ _ _ _).mono ?_; rintro e w' ⟨rfl, rfl⟩)
          go_round
          case rel =>
            refine ⟨k + 1, by omega, by go_num, fun i u hi hu => ?_⟩
            by_cases he : i = k
            · subst he; rw [hs.out] at hu; simp only [Option.some.injEq] at hu; rw [← hu]; exact HK.out
            · exact hall.out i u (by omega) hu
          case measure => simp [intOf]; omega
      · go_wp2
        go_ret
        exact ⟨by rw [HA.out, all_of HL.out (fun i s hi hs => hall.out i s (by omega) hs)]; rfl, rfl⟩
  · have HA : Hid (slotsOkB l = false) := by unfold Hid slotsOkB; rw [HL.out]; simp [hz]
    go_enter Tryz.func74, Tryz.ntmps74
    go_wp2
    go_ret
    exact ⟨by rw [HA.out]; rfl, rfl⟩
end Go.Proofs.YtffklmlljekceaaGreat
