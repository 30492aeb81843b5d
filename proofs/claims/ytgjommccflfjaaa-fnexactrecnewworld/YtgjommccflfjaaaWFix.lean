/-
  Fixed texts: sz, to, eq, and what the reading of an argument tells.
-/
import Derived.Test.YtgjommccflfjaaaSlotsEq
import Derived.Test.YtgjommccflfjaaaSlotsOpen
namespace Go.Proofs.Ytgjommccflfjaaa
open Go.ChangeShapes Go.WideShapes Go.ChangeAt Go.RowKit Go.Deep Go.Joins
set_option linter.unusedVariables false
set_option linter.unusedSimpArgs false

theorem szFix (b : Int) (t : ByteArray) (left : Int) (w : World) (hl : 0 ≤ left) (hm : left ≤ 1048576) (ht : t.size ≤ maxLen) :
    Calls Try.prog 65 #[.agg #[.int .i64 b, .string t], .int .i64 left] w fun e w' => ∃ r : Int, e = .returned (.int .i64 r) ∧ -1 ≤ r ∧ r ≤ left ∧ Below w.heap.size w w' := by
  unfold maxLen at ht
  go_enter Try.func65, Try.ntmps65
  go_wp2
  all_goals go_ret
  · exact ⟨-1, rfl, by omega, by omega, (Below.refl _ _).alloc (Nat.le_refl _) _⟩
  · exact ⟨_, rfl, by omega, by omega, (Below.refl _ _).alloc (Nat.le_refl _) _⟩

set_option maxHeartbeats 400000 in
theorem szFixs (a : Option Addr) (l : List Sl) (n cap : Nat) (left : Int) (w : World) (hn : l.length = n) (hl : 0 ≤ left) (hm : left ≤ 1048576) (hc : n ≤ maxLen) (h : SlotsAt w a l) :
    Calls Try.prog 35 #[.slice a n cap, .int .i64 left] w fun e w' => ∃ r : Int, e = .returned (.int .i64 r) ∧ -1 ≤ r ∧ r ≤ left ∧ (0 ≤ r → n ≤ 1048576) ∧ Below w.heap.size w w' := by
  unfold maxLen at hc
  have HL : Hid (l.length = n) := hn
  clear hn
  by_cases hz : left < n
  · go_enter Try.func35, Try.ntmps35
    go_wp2
    go_ret
    exact ⟨-1, rfl, by omega, by omega, by omega, Below.refl _ _⟩
  · go_enter Try.func35, Try.ntmps35
    go_wp2
    go_loopw [1, 5] (fun v i wr => ∃ (k : Nat) (r : Int), k ≤ n ∧ i = .int .i64 k ∧ v = .int .i64 r ∧ 0 ≤ r ∧ r ≤ left ∧ Below w.heap.size w wr) (fun _ i _ => n - (intOf i).toNat)
    case atStart => exact ⟨0, _, Nat.zero_le _, rfl, rfl, by omega, by omega, Below.refl _ _⟩
    case round =>
      obtain ⟨k, r, hk, rfl, rfl, hr0, hr1, hbel⟩ := hrel
      by_cases hlt : k < n
      · obtain ⟨s, hs⟩ : ∃ s, l[k]? = some s := ⟨_, List.getElem?_eq_getElem (by rw [HL.out]; exact hlt)⟩
        obtain ⟨b, off, rfl, hb, c0, c1, ht, _⟩ := (h.ext hbel) k s hs
        clear hs
        go_wp2_with (go_at_call 65; refine (szFix _ _ _ _ (by omega) (by omega) ht).mono ?_; rintro e w' ⟨r', rfl, h1, h2, hb'⟩)
        · go_ret
          exact ⟨-1, rfl, by omega, by omega, by omega, ext_trans hbel hb'⟩
        · go_roundw
          case rel => exact ⟨k + 1, r', by omega, by go_num, rfl, by omega, by omega, ext_trans hbel hb'⟩
          case measure => simp [intOf]; omega
      · go_wp2
        go_ret
        exact ⟨r, rfl, by omega, by omega, by omega, hbel⟩

/-- the fixed texts l are all that block g holds; it may be written -/
def FixOwn (w : World) (g : Nat) (l : List Sl) : Prop := ∃ C, Blk w g C 67 ∧ HoldsTo C l l.length
theorem FixOwn.at {w : World} {g : Nat} {l : List Sl} (h : FixOwn w g l) (hg : GoodSlots l) : SlotsAt w (some ⟨g, 0, none⟩) l := fun i s hs => by
  obtain ⟨C, hb, hz, hc⟩ := h
  have hi : i < l.length := (List.getElem?_eq_some_iff.1 hs).1
  obtain ⟨c0, c1⟩ := hc i s hi hs
  exact ⟨g, 0, rfl, hb.lt, by rw [Nat.zero_add, hb.cell, c0], by rw [Nat.zero_add, hb.cell, c1], hg i s hs⟩
theorem FixOwn.ext {w w' : World} {g : Nat} {l : List Sl} (h : FixOwn w g l) (hb : Below w.heap.size w w') : FixOwn w' g l := by
  obtain ⟨C, h1, h2⟩ := h
  exact ⟨C, h1.ext hb, h2⟩
theorem FixOwn.setCell {w : World} {g : Nat} {l : List Sl} (h : FixOwn w g l) {p : Addr} (hp : g ≠ p.block) (v : Value) : FixOwn (w.setCell p v) g l := by
  obtain ⟨C, h1, h2⟩ := h
  exact ⟨C, h1.setCell hp v, h2⟩
theorem FixOwn.lt {w : World} {g : Nat} {l : List Sl} (h : FixOwn w g l) : g < w.heap.size := by
  obtain ⟨C, h1, h2⟩ := h
  exact h1.lt
theorem toFix (b : Int) (t : ByteArray) (w : World) :
    Calls Try.prog 74 #[.agg #[.int .i64 b, .string t]] w fun e w' => e = .returned (.agg #[.int .i64 b, .string t]) ∧ Below w.heap.size w w' := by
  go_enter Try.func74, Try.ntmps74
  go_wp2
  exact bodyPost_ret (v := .agg #[.int .i64 b, .string t]) (by simp [results, Try.results74, go_sem]) rfl ⟨rfl, ext_alloc (ext_alloc (ext_alloc (Below.refl _ _) _) _) _⟩

theorem infoFix : (Try.prog.info? 67).map (fun i => (i.zero, i.size, i.bytes)) = some (some (.agg #[.int .i64 0, .string ⟨#[]⟩]), 2, 24) := by kernel_rfl
theorem makeFixs (n : Nat) (hn : n ≤ 1048576) (w : World) :
    (Instr.makeSlice 24 (.int .i64 (n : Int)) (.int .i64 (n : Int))).run Try.prog w = .ok (.slice (some ⟨w.heap.size, 0, none⟩) n n) (w.alloc (.cells (madeCells #[.int .i64 0, .string ⟨#[]⟩] (n * 2)) 67)) := by
  obtain ⟨i0, hi, hz0, hz1, hz2⟩ := info_parts infoFix
  have hm := run_make (P := Try.prog) w 24 67 i0 _ Try.underlying24 hi hz0 .i64 .i64 (n : Int) (n : Int) (by omega) (by omega) (by rw [hz2]; omega) (by omega)
  rw [hz1] at hm
  simpa [Value.cells] using hm

set_option maxHeartbeats 800000 in
theorem toFixs (a : Option Addr) (l : List Sl) (n cap : Nat) (w : World) (hn : l.length = n) (hc : n ≤ 1048576) (h : SlotsAt w a l) :
    Calls Try.prog 40 #[.slice a n cap] w fun e w' => ∃ g, e = .returned (.slice (some ⟨g, 0, none⟩) n n) ∧ w.heap.size ≤ g ∧ FixOwn w' g l ∧ Below w.heap.size w w' := by
  have HL : Hid (l.length = n) := hn
  clear hn
  have hmk := makeFixs n hc
  go_enter Try.func40, Try.ntmps40
  go_wp2
  go_loopw [4] (fun i wr => ∃ (k : Nat) (C : Array Value), k ≤ n ∧ i = .int .i64 k ∧ Blk wr w.heap.size C 67 ∧ HoldsTo C l k ∧ Below w.heap.size w wr) (fun i _ => n - (intOf i).toNat)
  case atStart => exact ⟨0, _, Nat.zero_le _, rfl, Blk.new _ _ _, ⟨by rw [size_madeCells, HL.out], fun i s hi => absurd hi (by omega)⟩, ext_alloc (Below.refl _ _) _⟩
  case round =>
    obtain ⟨k, C, hk, rfl, hB, hH, hbel⟩ := hrel
    by_cases hlt : k < n
    · obtain ⟨s, hs⟩ : ∃ s, l[k]? = some s := ⟨_, List.getElem?_eq_getElem (by rw [HL.out]; exact hlt)⟩
      obtain ⟨b, off, rfl, hb, c0, c1, _⟩ := (h.ext hbel) k s hs
      have HS := hH.step hs
      have hz : C.size = n * 2 := by rw [hH.1, HL.out]
      obtain ⟨x0, hx0⟩ : ∃ v, C[k * 2]? = some v := ⟨_, Array.getElem?_eq_getElem (by omega)⟩
      obtain ⟨x1, hx1⟩ : ∃ v, C[k * 2 + 1]? = some v := ⟨_, Array.getElem?_eq_getElem (by omega)⟩
      clear hs hH
      have e1 : (0 : Int) ≤ (k : Int) := by omega
      have e2 : (k : Int) < (n : Int) := by omega
      go_wp2_with (go_at_call 74; refine (toFix _ _ _).mono ?_; rintro e w' ⟨rfl, hb'⟩; have hB' := hB.ext hb'; have f0 := hB'.free (k * 2); have f1 := hB'.free (k * 2 + 1); have g0 := (hB'.cell (k * 2)).trans hx0; have g1 := (hB'.cell (k * 2 + 1)).trans hx1)
      go_roundw
      case rel => exact ⟨k + 1, _, by omega, by go_num, heap_setCell_same _ _ _ _ _ _ (heap_setCell_same _ _ _ _ _ _ hB'), HS, ((ext_trans hbel hb').setCell (Nat.le_refl _) _).setCell (Nat.le_refl _) _⟩
      case measure => simp [intOf]; omega
    · go_wp2
      go_ret
      exact ⟨w.heap.size, rfl, Nat.le_refl _, ⟨C, hB, by rw [HL.out, show n = k by omega]; exact hH⟩, hbel⟩

theorem eqFix_same (b : Int) (t : ByteArray) (w : World) :
    Calls Try.prog 53 #[.agg #[.int .i64 b, .string t], .agg #[.int .i64 b, .string t]] w fun e w' => e = .returned (.bool true) ∧ w' = (w.alloc (.cells #[.int .i64 b, .string t] 67)).alloc (.cells #[.int .i64 b, .string t] 67) := by
  go_enter Try.func53, Try.ntmps53
  go_wp2
  go_ret
  exact ⟨rfl, rfl⟩
set_option maxHeartbeats 400000 in
theorem eqFixs_same (a1 a2 : Option Addr) (l : List Sl) (n cap1 cap2 : Nat) (w : World) (hn : l.length = n) (hc : n ≤ maxLen) (h1 : SlotsAt w a1 l) (h2 : SlotsAt w a2 l) :
    Calls Try.prog 26 #[.slice a1 n cap1, .slice a2 n cap2] w fun e w' => e = .returned (.bool true) ∧ Below w.heap.size w w' := by
  unfold maxLen at hc
  have HL : Hid (l.length = n) := hn
  clear hn
  go_enter Try.func26, Try.ntmps26
  go_wp2
  go_loopw [5] (fun i wr => ∃ (k : Nat), k ≤ n ∧ i = .int .i64 k ∧ Below w.heap.size w wr) (fun i _ => n - (intOf i).toNat)
  case atStart => exact ⟨0, Nat.zero_le _, rfl, Below.refl _ _⟩
  case round =>
    obtain ⟨k, hk, rfl, hbel⟩ := hrel
    by_cases hlt : k < n
    · obtain ⟨s, hs⟩ : ∃ s, l[k]? = some s := ⟨_, List.getElem?_eq_getElem (by rw [HL.out]; exact hlt)⟩
      obtain ⟨b, off, rfl, hb, c0, c1, _⟩ := (h1.ext hbel) k s hs
      obtain ⟨b2, off2, rfl, hb2, d0, d1, _⟩ := (h2.ext hbel) k s hs
      clear hs h1 h2
      have e1 : (0 : Int) ≤ (k : Int) := by omega
      have e2 : (k : Int) < (n : Int) := by omega
      go_wp2_with fail
      go_region_held3 (fun w' => w'.cell? ⟨b, off + k * 2, none⟩ = some (.int .i64 s.1) ∧ w'.cell? ⟨b, off + k * 2 + 1, none⟩ = some (.string s.2) ∧ w'.cell? ⟨b2, off2 + k * 2, none⟩ = some (.int .i64 s.1) ∧ w'.cell? ⟨b2, off2 + k * 2 + 1, none⟩ = some (.string s.2)) (go_keep)
        (first | (go_at_call 53; refine (eqFix_same _ _ _).mono ?_; rintro e w' ⟨rfl, rfl⟩))
      go_wp2
      go_roundw
      case rel => exact ⟨k + 1, by omega, by go_num, (ext_alloc (ext_alloc hbel _) _).drew⟩
      case measure => simp [intOf]; omega
    · go_wp2
      go_ret
      exact ⟨rfl, hbel⟩

theorem fixs_open {H : Type} {enc : TypeId × Value → H} {W : World} {sp : Nat → Bool} {fuel : Nat} {v : Value} {y : DataW H × List MemPlace}
    (h : DataW.trod enc Try.prog W 0 sp true fuel 33 [v] = some y) :
    ∃ a n cap l, v = .slice a n cap ∧ List.length l = n ∧ n ≤ maxLen ∧ SlotsAt W a l := by
  rcases open_slice_pairs Try.underlying33 Try.underlying96 (by kernel_rfl) rfl rfl (by kernel_rfl) (by kernel_rfl) h with ⟨hcs, _⟩ | ⟨x, len, cap, m, k, V0, V1, D0, D1, P0, P1, hcs, _, hl, hm, hmm, _, hx⟩
  · simp only [List.cons.injEq, and_true] at hcs
    exact ⟨none, 0, 0, [], hcs, rfl, by unfold maxLen; omega, fun i s hs => by simp at hs⟩
  · simp only [List.cons.injEq, and_true] at hcs
    have hlm : len ≤ m := by rw [hmm]; split <;> omega
    refine ⟨some x, len, cap, (List.range len).map fun i => (intOf (V0 i), strOf (V1 i)), hcs, by simp, by omega, fun i s hs => ?_⟩
    have hi : i < len := by
      have := (List.getElem?_eq_some_iff.1 hs).1
      simpa using this
    simp only [List.getElem?_map, List.getElem?_range hi, Option.map_some, Option.some.injEq] at hs
    subst hs
    obtain ⟨c0, c1, t0, t1⟩ := hx i (by omega)
    obtain ⟨z, e0, _, wz⟩ := DataW.trod_int Try.underlying3 t0
    obtain ⟨t, e1, _, ht⟩ := DataW.trod_string Try.underlying9 t1
    simp only [List.cons.injEq, and_true] at e0 e1
    obtain ⟨b, off, spot⟩ := x
    have hspot : spot = none := by simpa [Addr.add] using World.cell?_spot (hx 0 (by omega)).1
    subst hspot
    rw [Addr.add_mid] at c0 c1
    rw [e0] at c0 ⊢
    rw [e1] at c1 ⊢
    exact ⟨b, off, rfl, World.block_lt_of_cell? W _ c0, c0, by simpa [Nat.add_assoc, strOf] using c1, ht, wz⟩

end Go.Proofs.Ytgjommccflfjaaa
