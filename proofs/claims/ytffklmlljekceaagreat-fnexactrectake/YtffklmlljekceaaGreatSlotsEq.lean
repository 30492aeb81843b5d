/-
  eqRecSlot, eqRecSlotS, eqRecDisk of the same data twice.
-/
import Derived.Test.YtffklmlljekceaaGreatSlots
import Derived.Deep.RegionHeld3
namespace Go.Proofs.YtffklmlljekceaaGreat
open Go.ChangeShapes Go.WideShapes Go.ChangeAt Go.RowKit
set_option linter.unusedVariables false
set_option linter.unusedSimpArgs false
theorem eqSlot_same (b : Int) (t : ByteArray) (w : World) :
    Calls Tryz.prog 110 #[.agg #[.int .i64 b, .string t], .agg #[.int .i64 b, .string t]] w fun e w' => e = .returned (.bool true) ∧ w' = (w.alloc (.cells #[.int .i64 b, .string t] 108)).alloc (.cells #[.int .i64 b, .string t] 108) := by
  go_enter Tryz.func110, Tryz.ntmps110
  go_wp2
  go_ret
  exact ⟨rfl, rfl⟩
set_option maxHeartbeats 400000 in
theorem eqSlots_same (a1 a2 : Option Addr) (l : List Sl) (n cap1 cap2 : Nat) (w : World) (hn : l.length = n) (hc : n ≤ maxLen) (h1 : SlotsAt w a1 l) (h2 : SlotsAt w a2 l) :
    Calls Tryz.prog 45 #[.slice a1 n cap1, .slice a2 n cap2] w fun e w' => e = .returned (.bool true) ∧ Below w.heap.size w w' := by
  unfold maxLen at hc
  have HL : Hid (l.length = n) := hn
  clear hn
  go_enter Tryz.func45, Tryz.ntmps45
  go_wp2
  go_loopw [5] (fun i wr => ∃ (k : Nat), k ≤ n ∧ i = .int .i64 k ∧ Below w.heap.size w wr) (fun i _ => n - (intOf i).toNat)
  case atStart => exact ⟨0, Nat.zero_le _, rfl, Below.refl _ _⟩
  case round =>
    obtain ⟨k, hk, rfl, hbel⟩ := hrel
    by_cases hlt : k < n
    · obtain ⟨s, hs⟩ : ∃ s, l[k]? = some s := ⟨_, List.getElem?_eq_getElem (by rw [HL.out]; exact hlt)⟩
      obtain ⟨b, off, rfl, hb, c0, c1, _⟩ := (h1.ext hbel) k s hs
      obtain ⟨b2, off2, rfl, hb2, d0, d1, _⟩ := (h2.ext hbel) k s hs
      clear hs h1 h2
      have e1 : (0 : Int) ≤ (k : Int) := by omega
      have e2 : (k : Int) < (n : Int) := by omega
      go_wp2_with fail
      go_region_held3 (fun w' => w'.cell? ⟨b, off + k * 2, none⟩ = some (.int .i64 s.1) ∧ w'.cell? ⟨b, off + k * 2 + 1, none⟩ = some (.string s.2) ∧ w'.cell? ⟨b2, off2 + k * 2, none⟩ = some (.int .i64 s.1) ∧ w'.cell? ⟨b2, off2 + k * 2 + 1, none⟩ = some (.string s.2)) (go_keep)
        (first | (go_at_call 110; refine (eqSlot_same _ _ _).mono ?_; rintro e w' ⟨rfl, rfl⟩))
      go_wp2
      go_roundw
      case rel => exact ⟨k + 1, by omega, by go_num, (ext_alloc (ext_alloc hbel _) _).drew⟩
      case measure => simp [intOf]; omega
    · go_wp2
      go_ret
      exact ⟨rfl, hbel⟩

set_option maxHeartbeats 400000 in
theorem eqDisk_same (p q : Int) (a1 a2 : Option Addr) (l : List Sl) (n cap1 cap2 : Nat) (w : World) (hn : l.length = n) (hc : n ≤ maxLen) (h1 : SlotsAt w a1 l) (h2 : SlotsAt w a2 l) :
    Calls Tryz.prog 42 #[.agg #[.int .i64 p, .int .i64 q, .slice a1 n cap1], .agg #[.int .i64 p, .int .i64 q, .slice a2 n cap2]] w fun e w' => e = .returned (.bool true) ∧ Below w.heap.size w w' := by
  have HL : Hid (l.length = n) := hn
  clear hn
  have hB : Below w.heap.size w ((w.alloc (.cells #[.int .i64 p, .int .i64 q, .slice a1 n cap1] 37)).alloc (.cells #[.int .i64 p, .int .i64 q, .slice a2 n cap2] 37)) := ext_alloc (ext_alloc (Below.refl _ _) _) _
  have g1 := h1.ext hB
  have g2 := h2.ext hB
  go_enter Tryz.func42, Tryz.ntmps42
  go_wp2_with (go_at_call 45; refine (eqSlots_same a1 a2 l n cap1 cap2 _ HL.out hc g1 g2).mono ?_; rintro e w' ⟨rfl, hb'⟩)
  go_ret
  exact ⟨rfl, ext_trans hB hb'⟩
end Go.Proofs.YtffklmlljekceaaGreat
