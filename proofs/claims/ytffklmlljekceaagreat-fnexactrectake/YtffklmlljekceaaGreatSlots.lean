/-
  Slots: what is read of a slice of slots; szRecSlot, szRecSlotS.
-/
import Derived.Test.YtffklmlljekceaaGreatWide
namespace Go.Proofs.YtffklmlljekceaaGreat
open Go.ChangeShapes Go.WideShapes Go.ChangeAt Go.RowKit
set_option linter.unusedVariables false
set_option linter.unusedSimpArgs false
abbrev Sl := Int × ByteArray
/-- the slots 'l' lie behind the address 'a' (two cells each) -/
def SlotsAt (w : World) (a : Option Addr) (l : List Sl) : Prop :=
  ∀ i s, l[i]? = some s → ∃ b off, a = some ⟨b, off, none⟩ ∧ b < w.heap.size ∧ w.cell? ⟨b, off + i * 2, none⟩ = some (.int .i64 s.1) ∧ w.cell? ⟨b, off + i * 2 + 1, none⟩ = some (.string s.2) ∧ s.2.size ≤ maxLen ∧ (Lit.int .i64 s.1).wf = true
theorem SlotsAt.ext {w w' : World} {a : Option Addr} {l : List Sl} (h : SlotsAt w a l) (hb : Below w.heap.size w w') : SlotsAt w' a l := fun i s hs => by
  obtain ⟨b, off, ha, hlt, c0, c1, r⟩ := h i s hs
  exact ⟨b, off, ha, Nat.lt_of_lt_of_le hlt hb.size, (hb.cell (p := ⟨b, off + i * 2, none⟩) hlt).trans c0, (hb.cell (p := ⟨b, off + i * 2 + 1, none⟩) hlt).trans c1, r⟩

theorem szSlot (b : Int) (t : ByteArray) (left : Int) (w : World) (hl : 0 ≤ left) (hm : left ≤ 1048576) (ht : t.size ≤ maxLen) :
    Calls Tryz.prog 68 #[.agg #[.int .i64 b, .string t], .int .i64 left] w fun e w' => ∃ r : Int, e = .returned (.int .i64 r) ∧ -1 ≤ r ∧ r ≤ left ∧ Below w.heap.size w w' := by
  unfold maxLen at ht
  go_enter Tryz.func68, Tryz.ntmps68
  go_wp2
  all_goals go_ret
  · exact ⟨-1, rfl, by omega, by omega, (Below.refl _ _).alloc (Nat.le_refl _) _⟩
  · exact ⟨_, rfl, by omega, by omega, (Below.refl _ _).alloc (Nat.le_refl _) _⟩

set_option maxHeartbeats 400000 in
theorem szSlots (a : Option Addr) (l : List Sl) (n cap : Nat) (left : Int) (w : World) (hn : l.length = n) (hl : 0 ≤ left) (hm : left ≤ 1048576) (hc : n ≤ maxLen) (h : SlotsAt w a l) :
    Calls Tryz.prog 25 #[.slice a n cap, .int .i64 left] w fun e w' => ∃ r : Int, e = .returned (.int .i64 r) ∧ -1 ≤ r ∧ r ≤ left ∧ (0 ≤ r → n ≤ 1048576) ∧ Below w.heap.size w w' := by
  unfold maxLen at hc
  have HL : Hid (l.length = n) := hn
  clear hn
  by_cases hz : left < n
  · go_enter Tryz.func25, Tryz.ntmps25
    go_wp2
    go_ret
    exact ⟨-1, rfl, by omega, by omega, by omega, Below.refl _ _⟩
  · go_enter Tryz.func25, Tryz.ntmps25
    go_wp2
    go_loopw [1, 5] (fun v i wr => ∃ (k : Nat) (r : Int), k ≤ n ∧ i = .int .i64 k ∧ v = .int .i64 r ∧ 0 ≤ r ∧ r ≤ left ∧ Below w.heap.size w wr) (fun _ i _ => n - (intOf i).toNat)
    case atStart => exact ⟨0, _, Nat.zero_le _, rfl, rfl, by omega, by omega, Below.refl _ _⟩
    case round =>
      obtain ⟨k, r, hk, rfl, rfl, hr0, hr1, hbel⟩ := hrel
      by_cases hlt : k < n
      · obtain ⟨s, hs⟩ : ∃ s, l[k]? = some s := ⟨_, List.getElem?_eq_getElem (by rw [HL.out]; exact hlt)⟩
        obtain ⟨b, off, rfl, hb, c0, c1, ht, _⟩ := (h.ext hbel) k s hs
        clear hs
        go_wp2_with (go_at_call 68; refine (szSlot _ _ _ _ (by omega) (by omega) ht).mono ?_; rintro e w' ⟨r', rfl, h1, h2, hb'⟩)
        · go_ret
          exact ⟨-1, rfl, by omega, by omega, by omega, ext_trans hbel hb'⟩
        · go_roundw
          case rel => exact ⟨k + 1, r', by omega, by go_num, rfl, by omega, by omega, ext_trans hbel hb'⟩
          case measure => simp [intOf]; omega
      · go_wp2
        go_ret
        exact ⟨r, rfl, by omega, by omega, by omega, hbel⟩

set_option maxHeartbeats 400000 in
theorem szDisk (p k : Int) (a : Option Addr) (l : List Sl) (n cap : Nat) (left : Int) (w : World) (hn : l.length = n) (hl : 0 ≤ left) (hm : left ≤ 1048576) (hc : n ≤ maxLen) (h : SlotsAt w a l) :
    Calls Tryz.prog 21 #[.agg #[.int .i64 p, .int .i64 k, .slice a n cap], .int .i64 left] w fun e w' => ∃ r : Int, e = .returned (.int .i64 r) ∧ -1 ≤ r ∧ r ≤ left ∧ (0 ≤ r → n ≤ 1048576) ∧ Below w.heap.size w w' := by
  have HL : Hid (l.length = n) := hn
  clear hn
  have hB : Below w.heap.size w (w.alloc (.cells #[.int .i64 p, .int .i64 k, .slice a n cap] 24)) := (Below.refl _ _).alloc (Nat.le_refl _) _
  have hA := h.ext hB
  go_enter Tryz.func21, Tryz.ntmps21
  go_wp2_with (go_at_call 25; refine (szSlots a l n cap left _ HL.out hl hm hc hA).mono ?_; rintro e w' ⟨r, rfl, h1, h2, h3, hb'⟩)
  all_goals go_ret
  · exact ⟨-1, rfl, by omega, by omega, by omega, ext_trans hB hb'⟩
  · exact ⟨r, rfl, by omega, by omega, h3, ext_trans hB hb'⟩
end Go.Proofs.YtffklmlljekceaaGreat
