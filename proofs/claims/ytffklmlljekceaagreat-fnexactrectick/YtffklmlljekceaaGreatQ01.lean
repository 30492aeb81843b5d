import Derived.Test.YtffklmlljekceaaGreatQ00
import Derived.Deep.RegionHeld3
namespace Go.Proofs.YtffklmlljekceaaGreat
open Go.ChangeShapes Go.WideShapes Go.ChangeAt Go.RowKit
set_option linter.unusedSimpArgs false
set_option linter.unusedVariables false
set_option maxHeartbeats 1000000
def slotOkB (s : Sl) : Bool := inB s.1 0 1000000 && decide ((s.2.size : Int) ≤ 100) && (!decide (s.1 = 0) || s.2.toList.isEmpty)
def slotsOkB (l : List Sl) : Bool := decide (l.length ≤ 60) && l.all slotOkB
theorem empty_size {t : ByteArray} (h : t.toList.isEmpty = true) : t.size = 0 := by
 rw [ByteArray.toList_eq, List.isEmpty_iff] at h
 have := congrArg List.length h
 simpa using this
theorem slotOkB_zero (t : ByteArray) : slotOkB (0, t) = t.toList.isEmpty := by
 cases h : t.toList.isEmpty
 ·simp [slotOkB, h]
 simp [slotOkB, h, inB, empty_size h]
theorem slotOkB_pos {b : Int} (t : ByteArray) (hb : ¬ b = 0) : slotOkB (b, t) = (inB b 1 1000000 && decide ((t.size : Int) ≤ 100)) := by
 have : inB b 0 1000000 = inB b 1 1000000 := by
  rw [Bool.eq_iff_iff, inB_iff, inB_iff]; omega
 simp [slotOkB, hb, this]
theorem all_of {l : List Sl} {f : Sl → Bool} {n : Nat} (hn : l.length = n) (h : ∀ (i : Nat) s, i < n → l[i]? = some s → f s = true) : l.all f = true := by
 rw [List.all_eq_true]
 intro s hs
 obtain ⟨i, hi, rfl⟩ := List.getElem_of_mem hs
 exact h i _ (by omega) (List.getElem?_eq_getElem hi)
theorem not_all_of {l : List Sl} {f : Sl → Bool} {k : Nat} {s : Sl} (hs : l[k]? = some s) (h : f s = false) : l.all f = false := by
 rw [List.all_eq_false]
 exact ⟨s, List.mem_of_getElem? hs, by simp [h]⟩
theorem slotOk_any (b : Int) (t : ByteArray) (w : World) (ht : t.size ≤ maxLen) :
  Calls Tryz.prog 129 #[.agg #[.int .i64 b, .string t]] w fun e w' => e = .returned (.bool (slotOkB (b, t))) ∧ w' = w.alloc (.cells #[.int .i64 b, .string t] 108) := by
 unfold maxLen at ht
 by_cases hb : b = 0
 ·subst hb
  rw [slotOkB_zero]
  go_enter Tryz.func129, Tryz.ntmps129
  go_wp2
  go_ret
  exact ⟨rfl, rfl⟩
 have hb' : (b == 0) = false := beq_eq_false_iff_ne.2 hb
 rw [slotOkB_pos t hb]
 cases h1 : inB b 1 1000000
 ·go_enter Tryz.func129, Tryz.ntmps129
  go_wp2_with (go_at_call 89; refine (within_any _ _ _ _).mono ?_; rintro e w' ⟨rfl, rfl⟩)
  go_ret
  exact ⟨rfl, rfl⟩
 go_enter Tryz.func129, Tryz.ntmps129
 go_wp2_with (go_at_call 89; refine (within_any _ _ _ _).mono ?_; rintro e w' ⟨rfl, rfl⟩)
 go_ret
 exact ⟨by simp, rfl⟩
theorem implSlotsOk (a : Option Addr) (l : List Sl) (n cap : Nat) (w : World) (hn : l.length = n) (hc : n ≤ maxLen) (h : SlotsAt w a l) :
  Calls Tryz.prog 91 #[.slice a n cap] w fun e w' => e = .returned (.bool (slotsOkB l)) ∧ Below w.heap.size w w' := by
 unfold maxLen at hc
 have HL : Hid (l.length = n) := hn
 clear hn
 by_cases hz : n ≤ 60
 ·have HA : Hid (slotsOkB l = l.all slotOkB) := by unfold Hid slotsOkB; rw [HL.out]; simp [hz]
  go_enter Tryz.func91, Tryz.ntmps91
  go_wp2
  go_loopw [10] (fun i wr => ∃ (k : Nat), k ≤ n ∧ i = .int .i64 k ∧ (∀ (i : Nat) s, i < k → l[i]? = some s → slotOkB s = true) ∧ Below w.heap.size w wr) (fun i _ => n - (intOf i).toNat)
  case atStart => exact ⟨0, Nat.zero_le _, rfl, fun i s hi => absurd hi (by omega), Below.refl _ _⟩
  obtain ⟨k, hk, rfl, hall0, hbel⟩ := hrel
  have hall : Hid (∀ (i : Nat) s, i < k → l[i]? = some s → slotOkB s = true) := hall0
  clear hall0
  by_cases hlt : k < n
  ·obtain ⟨s, hs0⟩ : ∃ s, l[k]? = some s := ⟨_, List.getElem?_eq_getElem (by rw [HL.out]; exact hlt)⟩
   obtain ⟨b, off, rfl, hb, c0, c1, ht, _⟩ := (h.ext hbel) k s hs0
   have hs : Hid (l[k]? = some s) := hs0
   clear hs0
   obtain ⟨sb, st⟩ := s
   cases hok : slotOkB (sb, st)
   ·go_wp2_with (go_at_call 129; refine (slotOk_any _ _ _ ht).mono ?_; rintro e w' ⟨rfl, rfl⟩)
    go_ret
    exact ⟨by rw [HA.out, not_all_of hs.out hok]; rfl, ext_alloc (ext_alloc hbel _) _⟩
   go_wp2_with (go_at_call 129; refine (slotOk_any _ _ _ ht).mono ?_; rintro e w' ⟨rfl, rfl⟩)
   go_roundw
   case rel =>
    refine ⟨k + 1, by omega, by go_num, fun i u hi hu => ?_, ext_alloc (ext_alloc hbel _) _⟩
    by_cases he : i = k
    ·subst he; rw [hs.out] at hu; simp only [Option.some.injEq] at hu; rw [← hu]; exact hok
    exact hall.out i u (by omega) hu
   case measure => simp [intOf]; omega
  go_wp2
  go_ret
  exact ⟨by rw [HA.out, all_of HL.out (fun i s hi hs => hall.out i s (by omega) hs)]; rfl, hbel⟩
 have HA : Hid (slotsOkB l = false) := by unfold Hid slotsOkB; rw [HL.out]; simp [hz]
 go_enter Tryz.func91, Tryz.ntmps91
 go_wp2
 go_ret
 exact ⟨by rw [HA.out]; rfl, Below.refl _ _⟩
theorem slot_cases (b : Int) (t : ByteArray) :
  (inB b 0 1000000 = false ∧ slotOkB (b, t) = false) ∨ (inB b 0 1000000 = true ∧ (100 : Int) < (t.size : Int) ∧ slotOkB (b, t) = false) ∨
  (inB b 0 1000000 = true ∧ (t.size : Int) ≤ 100 ∧ b = 0 ∧ t.toList.isEmpty = false ∧ slotOkB (b, t) = false) ∨
  (inB b 0 1000000 = true ∧ (t.size : Int) ≤ 100 ∧ b = 0 ∧ t.toList.isEmpty = true ∧ slotOkB (b, t) = true) ∨
  (inB b 0 1000000 = true ∧ (t.size : Int) ≤ 100 ∧ (b == 0) = false ∧ slotOkB (b, t) = true) := by
 cases h1 : inB b 0 1000000
 ·exact .inl ⟨rfl, by simp [slotOkB, h1]⟩
 by_cases h2 : (t.size : Int) ≤ 100
 ·by_cases h3 : b = 0
  ·cases h4 : t.toList.isEmpty
   ·exact .inr (.inr (.inl ⟨rfl, h2, h3, rfl, by simp [slotOkB, h1, h3, h4]⟩))
   exact .inr (.inr (.inr (.inl ⟨rfl, h2, h3, rfl, by simp [slotOkB, h1, h2, h4]⟩)))
  exact .inr (.inr (.inr (.inr ⟨rfl, h2, beq_eq_false_iff_ne.2 h3, by simp [slotOkB, h1, h2, h3]⟩)))
 exact .inr (.inl ⟨rfl, by omega, by simp [slotOkB, h2]⟩)
theorem specSlotsOk (a : Option Addr) (l : List Sl) (n cap : Nat) (w : World) (hn : l.length = n) (hc : n ≤ maxLen) (h : SlotsAt w a l) :
  Calls Tryz.prog 74 #[.slice a n cap] w fun e w' => e = .returned (.bool (slotsOkB l)) ∧ w' = w := by
 unfold maxLen at hc
 have HL : Hid (l.length = n) := hn
 clear hn
 by_cases hz : n ≤ 60
 ·have HA : Hid (slotsOkB l = l.all slotOkB) := by unfold Hid slotsOkB; rw [HL.out]; simp [hz]
  go_enter Tryz.func74, Tryz.ntmps74
  go_wp2
  go_loop [3] (fun i => ∃ (k : Nat), k ≤ n ∧ i = .int .i64 k ∧ (∀ (i : Nat) s, i < k → l[i]? = some s → slotOkB s = true)) (fun i => n - (intOf i).toNat)
  case atStart => exact ⟨0, Nat.zero_le _, rfl, fun i s hi => absurd hi (by omega)⟩
  obtain ⟨k, hk, rfl, hall0⟩ := hrel
  have hall : Hid (∀ (i : Nat) s, i < k → l[i]? = some s → slotOkB s = true) := hall0
  clear hall0
  by_cases hlt : k < n
  ·obtain ⟨s, hs0⟩ : ∃ s, l[k]? = some s := ⟨_, List.getElem?_eq_getElem (by rw [HL.out]; exact hlt)⟩
   obtain ⟨b, off, rfl, hb, c0, c1, ht, _⟩ := h k s hs0
   unfold maxLen at ht
   have hs : Hid (l[k]? = some s) := hs0
   clear hs0
   obtain ⟨sb, st⟩ := s
   simp only at c0 c1 ht
   rcases slot_cases sb st with ⟨g1, hok⟩ | ⟨g1, g2, hok⟩ | ⟨g1, g2, g3, g4, hok⟩ | ⟨g1, g2, g3, g4, hok⟩ | ⟨g1, g2, g3, hok⟩
   ·have HK : Hid (slotOkB (sb, st) = false) := hok
    clear hok
    go_wp2_with (go_at_call 70; refine (l1In_any _ _ _ _).mono ?_; rintro e w' ⟨rfl, rfl⟩)
    go_ret
    exact ⟨by rw [HA.out, not_all_of hs.out HK.out]; rfl, rfl⟩
   ·have HK : Hid (slotOkB (sb, st) = false) := hok
    clear hok
    go_wp2_with (go_at_call 70; refine (l1In_any _ _ _ _).mono ?_; rintro e w' ⟨rfl, rfl⟩)
    go_ret
    exact ⟨by rw [HA.out, not_all_of hs.out HK.out]; rfl, rfl⟩
   ·have HK : Hid (slotOkB (sb, st) = false) := hok
    clear hok
    subst g3
    go_wp2_with (go_at_call 70; refine (l1In_any _ _ _ _).mono ?_; rintro e w' ⟨rfl, rfl⟩)
    go_ret
    exact ⟨by rw [HA.out, not_all_of hs.out HK.out]; rfl, rfl⟩
   ·have HK : Hid (slotOkB (sb, st) = true) := hok
    clear hok
    subst g3
    go_wp2_with (go_at_call 70; refine (l1In_any _ _ _ _).mono ?_; rintro e w' ⟨rfl, rfl⟩)
    go_round
    case rel =>
     refine ⟨k + 1, by omega, by go_num, fun i u hi hu => ?_⟩
     by_cases he : i = k
     ·subst he; rw [hs.out] at hu; simp only [Option.some.injEq] at hu; rw [← hu]; exact HK.out
     exact hall.out i u (by omega) hu
    case measure => simp [intOf]; omega
   have HK : Hid (slotOkB (sb, st) = true) := hok
   clear hok
   go_wp2_with (go_at_call 70; refine (l1In_any _ _ _ _).mono ?_; rintro e w' ⟨rfl, rfl⟩)
   go_round
   case rel =>
    refine ⟨k + 1, by omega, by go_num, fun i u hi hu => ?_⟩
    by_cases he : i = k
    ·subst he; rw [hs.out] at hu; simp only [Option.some.injEq] at hu; rw [← hu]; exact HK.out
    exact hall.out i u (by omega) hu
   case measure => simp [intOf]; omega
  go_wp2
  go_ret
  exact ⟨by rw [HA.out, all_of HL.out (fun i s hi hs => hall.out i s (by omega) hs)]; rfl, rfl⟩
 have HA : Hid (slotsOkB l = false) := by unfold Hid slotsOkB; rw [HL.out]; simp [hz]
 go_enter Tryz.func74, Tryz.ntmps74
 go_wp2
 go_ret
 exact ⟨by rw [HA.out]; rfl, rfl⟩
theorem eqSlot_same (b : Int) (t : ByteArray) (w : World) :
  Calls Tryz.prog 110 #[.agg #[.int .i64 b, .string t], .agg #[.int .i64 b, .string t]] w fun e w' => e = .returned (.bool true) ∧ w' = (w.alloc (.cells #[.int .i64 b, .string t] 108)).alloc (.cells #[.int .i64 b, .string t] 108) := by
 go_enter Tryz.func110, Tryz.ntmps110
 go_wp2
 go_ret
 exact ⟨rfl, rfl⟩
theorem eqSlots_same (a1 a2 : Option Addr) (l : List Sl) (n cap1 cap2 : Nat) (w : World) (hn : l.length = n) (hc : n ≤ maxLen) (h1 : SlotsAt w a1 l) (h2 : SlotsAt w a2 l) :
  Calls Tryz.prog 45 #[.slice a1 n cap1, .slice a2 n cap2] w fun e w' => e = .returned (.bool true) ∧ Below w.heap.size w w' := by
 unfold maxLen at hc
 have HL : Hid (l.length = n) := hn
 clear hn
 go_enter Tryz.func45, Tryz.ntmps45
 go_wp2
 go_loopw [5] (fun i wr => ∃ (k : Nat), k ≤ n ∧ i = .int .i64 k ∧ Below w.heap.size w wr) (fun i _ => n - (intOf i).toNat)
 case atStart => exact ⟨0, Nat.zero_le _, rfl, Below.refl _ _⟩
 obtain ⟨k, hk, rfl, hbel⟩ := hrel
 by_cases hlt : k < n
 ·obtain ⟨s, hs⟩ : ∃ s, l[k]? = some s := ⟨_, List.getElem?_eq_getElem (by rw [HL.out]; exact hlt)⟩
  obtain ⟨b, off, rfl, hb, c0, c1, _⟩ := (h1.ext hbel) k s hs
  obtain ⟨b2, off2, rfl, hb2, d0, d1, _⟩ := (h2.ext hbel) k s hs
  clear hs h1 h2
  have e1 : (0 : Int) ≤ (k : Int) := by omega
  have e2 : (k : Int) < (n : Int) := by omega
  go_wp2_with fail
  go_region_held3 (fun w' => w'.cell? ⟨b, off + k * 2, none⟩ = some (.int .i64 s.1) ∧ w'.cell? ⟨b, off + k * 2 + 1, none⟩ = some (.string s.2) ∧ w'.cell? ⟨b2, off2 + k * 2, none⟩ = some (.int .i64 s.1) ∧ w'.cell? ⟨b2, off2 + k * 2 + 1, none⟩ = some (.string s.2)) (go_keep)
   (first | (go_at_call 110; refine (eqSlot_same _ _ _).mono ?_; rintro e w' ⟨rfl, rfl⟩))
  go_wp2
  go_roundw
  case rel => exact ⟨k + 1, by omega, by go_num, (ext_alloc (ext_alloc hbel _) _).drew⟩
  case measure => simp [intOf]; omega
 go_wp2
 go_ret
 exact ⟨rfl, hbel⟩
theorem eqDisk_same (p q : Int) (a1 a2 : Option Addr) (l : List Sl) (n cap1 cap2 : Nat) (w : World) (hn : l.length = n) (hc : n ≤ maxLen) (h1 : SlotsAt w a1 l) (h2 : SlotsAt w a2 l) :
  Calls Tryz.prog 42 #[.agg #[.int .i64 p, .int .i64 q, .slice a1 n cap1], .agg #[.int .i64 p, .int .i64 q, .slice a2 n cap2]] w fun e w' => e = .returned (.bool true) ∧ Below w.heap.size w w' := by
 have HL : Hid (l.length = n) := hn
 clear hn
 have hB : Below w.heap.size w ((w.alloc (.cells #[.int .i64 p, .int .i64 q, .slice a1 n cap1] 37)).alloc (.cells #[.int .i64 p, .int .i64 q, .slice a2 n cap2] 37)) := ext_alloc (ext_alloc (Below.refl _ _) _) _
 have g1 := h1.ext hB
 have g2 := h2.ext hB
 go_enter Tryz.func42, Tryz.ntmps42
 go_wp2_with (go_at_call 45; refine (eqSlots_same a1 a2 l n cap1 cap2 _ HL.out hc g1 g2).mono ?_; rintro e w' ⟨rfl, hb'⟩)
 go_ret
 exact ⟨rfl, ext_trans hB hb'⟩
def HoldsTo (C : Array Value) (l : List Sl) (k : Nat) : Prop :=
 C.size = l.length * 2 ∧ ∀ i s, i < k → l[i]? = some s → C[i * 2]? = some (.int .i64 s.1) ∧ C[i * 2 + 1]? = some (.string s.2)
theorem HoldsTo.step {C : Array Value} {l : List Sl} {k : Nat} {s : Sl} (h : HoldsTo C l k) (hs : l[k]? = some s) :
  HoldsTo ((C.setIfInBounds (k * 2) (.int .i64 s.1)).setIfInBounds (k * 2 + 1) (.string s.2)) l (k + 1) := by
 obtain ⟨hz, hc⟩ := h
 have hk : k < l.length := (List.getElem?_eq_some_iff.1 hs).1
 refine ⟨by simp [hz], fun i u hi hu => ?_⟩
 by_cases he : i = k
 ·subst he
  rw [hs] at hu
  simp only [Option.some.injEq] at hu
  subst hu
  constructor
  ·rw [Array.getElem?_setIfInBounds_ne (by omega), Array.getElem?_setIfInBounds_self_of_lt (by omega)]
  rw [Array.getElem?_setIfInBounds_self_of_lt (by simp; omega)]
 obtain ⟨c0, c1⟩ := hc i u (by omega) hu
 constructor
 ·rw [Array.getElem?_setIfInBounds_ne (by omega), Array.getElem?_setIfInBounds_ne (by omega), c0]
 rw [Array.getElem?_setIfInBounds_ne (by omega), Array.getElem?_setIfInBounds_ne (by omega), c1]
def SlotsOwn (w : World) (g : Nat) (l : List Sl) : Prop := ∃ C, Blk w g C 108 ∧ HoldsTo C l l.length
def GoodSlots (l : List Sl) : Prop := ∀ (i : Nat) s, l[i]? = some s → s.2.size ≤ maxLen ∧ (Lit.int .i64 s.1).wf = true
theorem SlotsAt.good {w : World} {a : Option Addr} {l : List Sl} (h : SlotsAt w a l) : GoodSlots l := fun i s hs => by
 obtain ⟨b, off, _, _, _, _, r⟩ := h i s hs
 exact r
theorem SlotsOwn.at {w : World} {g : Nat} {l : List Sl} (h : SlotsOwn w g l) (hg : GoodSlots l) : SlotsAt w (some ⟨g, 0, none⟩) l := fun i s hs => by
 obtain ⟨C, hb, hz, hc⟩ := h
 have hi : i < l.length := (List.getElem?_eq_some_iff.1 hs).1
 obtain ⟨c0, c1⟩ := hc i s hi hs
 exact ⟨g, 0, rfl, hb.lt, by rw [Nat.zero_add, hb.cell, c0], by rw [Nat.zero_add, hb.cell, c1], hg i s hs⟩
theorem SlotsOwn.ext {w w' : World} {g : Nat} {l : List Sl} (h : SlotsOwn w g l) (hb : Below w.heap.size w w') : SlotsOwn w' g l := by
 obtain ⟨C, h1, h2⟩ := h
 exact ⟨C, h1.ext hb, h2⟩
theorem SlotsOwn.setCell {w : World} {g : Nat} {l : List Sl} (h : SlotsOwn w g l) {p : Addr} (hp : g ≠ p.block) (v : Value) : SlotsOwn (w.setCell p v) g l := by
 obtain ⟨C, h1, h2⟩ := h
 exact ⟨C, h1.setCell hp v, h2⟩
theorem SlotsOwn.lt {w : World} {g : Nat} {l : List Sl} (h : SlotsOwn w g l) : g < w.heap.size := by
 obtain ⟨C, h1, h2⟩ := h
 exact h1.lt
theorem toSlot (b : Int) (t : ByteArray) (w : World) :
  Calls Tryz.prog 83 #[.agg #[.int .i64 b, .string t]] w fun e w' => e = .returned (.agg #[.int .i64 b, .string t]) ∧ Below w.heap.size w w' := by
 go_enter Tryz.func83, Tryz.ntmps83
 go_wp2
 exact bodyPost_ret (v := .agg #[.int .i64 b, .string t]) (by simp [results, Tryz.results83, go_sem]) rfl ⟨rfl, ext_alloc (ext_alloc (ext_alloc (Below.refl _ _) _) _) _⟩
theorem infoSlot : (Tryz.prog.info? 108).map (fun i => (i.zero, i.size, i.bytes)) = some (some (.agg #[.int .i64 0, .string ⟨#[]⟩]), 2, 24) := by kernel_rfl
theorem makeSlots (n : Nat) (hn : n ≤ 1048576) (w : World) :
  (Instr.makeSlice 35 (.int .i64 (n : Int)) (.int .i64 (n : Int))).run Tryz.prog w = .ok (.slice (some ⟨w.heap.size, 0, none⟩) n n) (w.alloc (.cells (madeCells #[.int .i64 0, .string ⟨#[]⟩] (n * 2)) 108)) := by
 obtain ⟨i0, hi, hz0, hz1, hz2⟩ := info_parts infoSlot
 have hm := run_make (P := Tryz.prog) w 35 108 i0 _ Tryz.underlying35 hi hz0 .i64 .i64 (n : Int) (n : Int) (by omega) (by omega) (by rw [hz2]; omega) (by omega)
 rw [hz1] at hm
 simpa [Value.cells] using hm
theorem toSlots (a : Option Addr) (l : List Sl) (n cap : Nat) (w : World) (hn : l.length = n) (hc : n ≤ 1048576) (h : SlotsAt w a l) :
  Calls Tryz.prog 36 #[.slice a n cap] w fun e w' => ∃ g, e = .returned (.slice (some ⟨g, 0, none⟩) n n) ∧ w.heap.size ≤ g ∧ SlotsOwn w' g l ∧ Below w.heap.size w w' := by
 have HL : Hid (l.length = n) := hn
 clear hn
 have hmk := makeSlots n hc
 go_enter Tryz.func36, Tryz.ntmps36
 go_wp2
 go_loopw [4] (fun i wr => ∃ (k : Nat) (C : Array Value), k ≤ n ∧ i = .int .i64 k ∧ Blk wr w.heap.size C 108 ∧ HoldsTo C l k ∧ Below w.heap.size w wr) (fun i _ => n - (intOf i).toNat)
 case atStart => exact ⟨0, _, Nat.zero_le _, rfl, Blk.new _ _ _, ⟨by rw [size_madeCells, HL.out], fun i s hi => absurd hi (by omega)⟩, ext_alloc (Below.refl _ _) _⟩
 obtain ⟨k, C, hk, rfl, hB, hH, hbel⟩ := hrel
 by_cases hlt : k < n
 ·obtain ⟨s, hs⟩ : ∃ s, l[k]? = some s := ⟨_, List.getElem?_eq_getElem (by rw [HL.out]; exact hlt)⟩
  obtain ⟨b, off, rfl, hb, c0, c1, _⟩ := (h.ext hbel) k s hs
  have HS := hH.step hs
  have hz : C.size = n * 2 := by rw [hH.1, HL.out]
  obtain ⟨x0, hx0⟩ : ∃ v, C[k * 2]? = some v := ⟨_, Array.getElem?_eq_getElem (by omega)⟩
  obtain ⟨x1, hx1⟩ : ∃ v, C[k * 2 + 1]? = some v := ⟨_, Array.getElem?_eq_getElem (by omega)⟩
  clear hs hH
  have e1 : (0 : Int) ≤ (k : Int) := by omega
  have e2 : (k : Int) < (n : Int) := by omega
  go_wp2_with (go_at_call 83; refine (toSlot _ _ _).mono ?_; rintro e w' ⟨rfl, hb'⟩; have hB' := hB.ext hb'; have f0 := hB'.free (k * 2); have f1 := hB'.free (k * 2 + 1); have g0 := (hB'.cell (k * 2)).trans hx0; have g1 := (hB'.cell (k * 2 + 1)).trans hx1)
  go_roundw
  case rel => exact ⟨k + 1, _, by omega, by go_num, heap_setCell_same _ _ _ _ _ _ (heap_setCell_same _ _ _ _ _ _ hB'), HS, ((ext_trans hbel hb').setCell (Nat.le_refl _) _).setCell (Nat.le_refl _) _⟩
  case measure => simp [intOf]; omega
 go_wp2
 go_ret
 exact ⟨w.heap.size, rfl, Nat.le_refl _, ⟨C, hB, by rw [HL.out, show n = k by omega]; exact hH⟩, hbel⟩
theorem toDisk (p q : Int) (a : Option Addr) (l : List Sl) (n cap : Nat) (w : World) (hn : l.length = n) (hc : n ≤ 1048576) (h : SlotsAt w a l) :
  Calls Tryz.prog 32 #[.agg #[.int .i64 p, .int .i64 q, .slice a n cap]] w fun e w' => ∃ g, e = .returned (.agg #[.int .i64 p, .int .i64 q, .slice (some ⟨g, 0, none⟩) n n]) ∧ w.heap.size ≤ g ∧ SlotsOwn w' g l ∧ Below w.heap.size w w' := by
 have HL : Hid (l.length = n) := hn
 clear hn
 go_enter Tryz.func32, Tryz.ntmps32
 go_wp2_with fail
 have hB : Below w.heap.size w (((w.alloc (.cells #[.int .i64 p, .int .i64 q, .slice a n cap] 24)).alloc (.cells #[.int .i64 0, .int .i64 0, .slice none 0 0] 37)).alloc (.cells #[.int .i64 p, .int .i64 q, .slice none 0 0] 37)) := ext_alloc (ext_alloc (ext_alloc (Below.refl _ _) _) _) _
 refine (toSlots a l n cap _ HL.out hc (h.ext hB)).mono ?_
 rintro e w1 ⟨g, rfl, hg, hown, hb1⟩
 have b1 : Blk w1 (w.heap.size + 1) #[.int .i64 0, .int .i64 0, .slice none 0 0] 37 := ((Blk.new' _ _ (by simp)).alloc _).ext hb1
 have b2 : Blk w1 (w.heap.size + 1 + 1) #[.int .i64 p, .int .i64 q, .slice none 0 0] 37 := (Blk.new' _ _ (by simp)).ext hb1
 have c1 := b1.cell
 have c2 := b2.cell
 have f1 := b1.free
 have f2 := b2.free
 have hg' : w.heap.size + 1 + 1 < g := by simp at hg; omega
 clear b1 b2 h
 go_wp2
 refine bodyPost_ret (v := .agg #[.int .i64 p, .int .i64 q, .slice (some ⟨g, 0, none⟩) n n]) (by simp [results, Tryz.results32, go_sem, c1, c2]) rfl ⟨g, rfl, by omega, ?_, ?_⟩
 ·exact (((hown.setCell (by simp; omega) _).setCell (by simp; omega) _).setCell (by simp; omega) _).setCell (by simp; omega) _
 exact ((((ext_trans hB hb1).setCell (by simp; omega) _).setCell (by simp) _).setCell (by simp) _).setCell (by simp) _
end Go.Proofs.YtffklmlljekceaaGreat
