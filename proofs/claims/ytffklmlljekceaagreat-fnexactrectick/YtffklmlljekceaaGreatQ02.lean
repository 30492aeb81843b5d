import Derived.Test.YtffklmlljekceaaGreatQ01
import Derived.Deep.SlicePairs
import Derived.Lib.SmallJoins
namespace Go.Proofs.YtffklmlljekceaaGreat
open Go.ChangeShapes Go.WideShapes Go.ChangeAt Go.RowKit
set_option linter.unusedSimpArgs false
set_option linter.unusedVariables false
set_option maxHeartbeats 2000000
set_option maxRecDepth 100000
structure MsgH where
 k : Int
 f : Int
 t : Int
 b : Int
 i : Int
 n : Int
 x : ByteArray
abbrev msgV (h : MsgH) (v : Value) : Array Value := #[.int .i64 h.k, .int .i64 h.f, .int .i64 h.t, .int .i64 h.b, .int .i64 h.i, .int .i64 h.n, .string h.x, v]
def msgOkB (h : MsgH) (of_ : Int) (l : List Sl) : Bool :=
 inB h.k 1 9 && inB h.f 1 of_ && inB h.t 1 of_ && inB h.b 0 1000000 && inB h.i 0 60 && inB h.n 0 60 && decide ((h.x.size : Int) ≤ 100) && slotsOkB l
theorem specMsgOk (h : MsgH) (of_ : Int) (a : Option Addr) (l : List Sl) (n cap : Nat) (w : World) (hn : l.length = n) (hc : n ≤ maxLen) (hx : h.x.size ≤ maxLen) (hs : SlotsAt w a l) :
  Calls Tryz.prog 29 #[.agg (msgV h (.slice a n cap)), .int .i64 of_] w fun e w' => e = .returned (.bool (msgOkB h of_ l)) ∧ Below w.heap.size w w' := by
 have HL : Hid (l.length = n) := hn
 have HX : Hid (h.x.size ≤ maxLen) := hx
 unfold maxLen at hx
 clear hn
 have hB : Below w.heap.size w (w.alloc (.cells (msgV h (.slice a n cap)) 45)) := ext_alloc (Below.refl _ _) _
 have hA := hs.ext hB
 clear hs
 cases g0 : inB h.k 1 9
 ·rw [show msgOkB h of_ l = false by simp [msgOkB, g0]]
  go_enter Tryz.func29, Tryz.ntmps29
  go_wp2_with (first
    | (go_at_call 70; refine (l1In_any _ _ _ _).mono ?_; rintro e w' ⟨rfl, rfl⟩)
    | (go_at_call 74; refine (specSlotsOk a l n cap _ HL.out hc hA).mono ?_; rintro e w9 ⟨rfl, rfl⟩))
  go_ret
  exact ⟨rfl, hB⟩
 skip
 cases g1 : inB h.f 1 of_
 ·rw [show msgOkB h of_ l = false by simp [msgOkB, g0, g1]]
  go_enter Tryz.func29, Tryz.ntmps29
  go_wp2_with (first
   | (go_at_call 70; refine (l1In_any _ _ _ _).mono ?_; rintro e w' ⟨rfl, rfl⟩)
   | (go_at_call 74; refine (specSlotsOk a l n cap _ HL.out hc hA).mono ?_; rintro e w9 ⟨rfl, rfl⟩))
  go_ret
  exact ⟨rfl, hB⟩
 skip
 cases g2 : inB h.t 1 of_
 ·rw [show msgOkB h of_ l = false by simp [msgOkB, g0, g1, g2]]
  go_enter Tryz.func29, Tryz.ntmps29
  go_wp2_with (first
  | (go_at_call 70; refine (l1In_any _ _ _ _).mono ?_; rintro e w' ⟨rfl, rfl⟩)
  | (go_at_call 74; refine (specSlotsOk a l n cap _ HL.out hc hA).mono ?_; rintro e w9 ⟨rfl, rfl⟩))
  go_ret
  exact ⟨rfl, hB⟩
 skip
 cases g3 : inB h.b 0 1000000
 ·rw [show msgOkB h of_ l = false by simp [msgOkB, g0, g1, g2, g3]]
  go_enter Tryz.func29, Tryz.ntmps29
  go_wp2_with (first
 | (go_at_call 70; refine (l1In_any _ _ _ _).mono ?_; rintro e w' ⟨rfl, rfl⟩)
 | (go_at_call 74; refine (specSlotsOk a l n cap _ HL.out hc hA).mono ?_; rintro e w9 ⟨rfl, rfl⟩))
  go_ret
  exact ⟨rfl, hB⟩
 skip
 cases g4 : inB h.i 0 60
 ·rw [show msgOkB h of_ l = false by simp [msgOkB, g0, g1, g2, g3, g4]]
  go_enter Tryz.func29, Tryz.ntmps29
  go_wp2_with (first
 | (go_at_call 70; refine (l1In_any _ _ _ _).mono ?_; rintro e w' ⟨rfl, rfl⟩)
 | (go_at_call 74; refine (specSlotsOk a l n cap _ HL.out hc hA).mono ?_; rintro e w9 ⟨rfl, rfl⟩))
  go_ret
  exact ⟨rfl, hB⟩
 skip
 cases g5 : inB h.n 0 60
 ·rw [show msgOkB h of_ l = false by simp [msgOkB, g0, g1, g2, g3, g4, g5]]
  go_enter Tryz.func29, Tryz.ntmps29
  go_wp2_with (first
 | (go_at_call 70; refine (l1In_any _ _ _ _).mono ?_; rintro e w' ⟨rfl, rfl⟩)
 | (go_at_call 74; refine (specSlotsOk a l n cap _ HL.out hc hA).mono ?_; rintro e w9 ⟨rfl, rfl⟩))
  go_ret
  exact ⟨rfl, hB⟩
 skip
 by_cases g6 : (h.x.size : Int) ≤ 100
 ·rw [show msgOkB h of_ l = slotsOkB l by simp [msgOkB, g0, g1, g2, g3, g4, g5, g6]]
  cases g7 : slotsOkB l
  ·go_enter Tryz.func29, Tryz.ntmps29
   go_wp2_with (first
 | (go_at_call 70; refine (l1In_any _ _ _ _).mono ?_; rintro e w' ⟨rfl, rfl⟩)
 | (go_at_call 74; refine (specSlotsOk a l n cap _ HL.out hc hA).mono ?_; rintro e w9 ⟨rfl, rfl⟩))
   go_ret
   exact ⟨rfl, hB⟩
  go_enter Tryz.func29, Tryz.ntmps29
  go_wp2_with (first
 | (go_at_call 70; refine (l1In_any _ _ _ _).mono ?_; rintro e w' ⟨rfl, rfl⟩)
 | (go_at_call 74; refine (specSlotsOk a l n cap _ HL.out hc hA).mono ?_; rintro e w9 ⟨rfl, rfl⟩))
  go_ret
  exact ⟨rfl, hB⟩
 rw [show msgOkB h of_ l = false by simp [msgOkB, g6]]
 go_enter Tryz.func29, Tryz.ntmps29
 go_wp2_with (first
 | (go_at_call 70; refine (l1In_any _ _ _ _).mono ?_; rintro e w' ⟨rfl, rfl⟩)
 | (go_at_call 74; refine (specSlotsOk a l n cap _ HL.out hc hA).mono ?_; rintro e w9 ⟨rfl, rfl⟩))
 go_ret
 exact ⟨rfl, hB⟩
theorem implMsgOk (h : MsgH) (of_ : Int) (a : Option Addr) (l : List Sl) (n cap : Nat) (w : World) (hn : l.length = n) (hc : n ≤ maxLen) (hx : h.x.size ≤ maxLen) (hs : SlotsAt w a l) :
  Calls Tryz.prog 40 #[.agg (msgV h (.slice a n cap)), .int .i64 of_] w fun e w' => e = .returned (.bool (msgOkB h of_ l)) ∧ Below w.heap.size w w' := by
 have HL : Hid (l.length = n) := hn
 have HX : Hid (h.x.size ≤ maxLen) := hx
 unfold maxLen at hx
 clear hn
 have hB : Below w.heap.size w (w.alloc (.cells (msgV h (.slice a n cap)) 45)) := ext_alloc (Below.refl _ _) _
 have hA := hs.ext hB
 clear hs
 cases g0 : inB h.k 1 9
 ·rw [show msgOkB h of_ l = false by simp [msgOkB, g0]]
  go_enter Tryz.func40, Tryz.ntmps40
  go_wp2_with (first
    | (go_at_call 89; refine (within_any _ _ _ _).mono ?_; rintro e w' ⟨rfl, rfl⟩)
    | (go_at_call 91; refine (implSlotsOk a l n cap _ HL.out hc hA).mono ?_; rintro e w9 ⟨rfl, hb9⟩))
  go_ret
  exact ⟨rfl, hB⟩
 skip
 cases g1 : inB h.f 1 of_
 ·rw [show msgOkB h of_ l = false by simp [msgOkB, g0, g1]]
  go_enter Tryz.func40, Tryz.ntmps40
  go_wp2_with (first
   | (go_at_call 89; refine (within_any _ _ _ _).mono ?_; rintro e w' ⟨rfl, rfl⟩)
   | (go_at_call 91; refine (implSlotsOk a l n cap _ HL.out hc hA).mono ?_; rintro e w9 ⟨rfl, hb9⟩))
  go_ret
  exact ⟨rfl, hB⟩
 skip
 cases g2 : inB h.t 1 of_
 ·rw [show msgOkB h of_ l = false by simp [msgOkB, g0, g1, g2]]
  go_enter Tryz.func40, Tryz.ntmps40
  go_wp2_with (first
  | (go_at_call 89; refine (within_any _ _ _ _).mono ?_; rintro e w' ⟨rfl, rfl⟩)
  | (go_at_call 91; refine (implSlotsOk a l n cap _ HL.out hc hA).mono ?_; rintro e w9 ⟨rfl, hb9⟩))
  go_ret
  exact ⟨rfl, hB⟩
 skip
 cases g3 : inB h.b 0 1000000
 ·rw [show msgOkB h of_ l = false by simp [msgOkB, g0, g1, g2, g3]]
  go_enter Tryz.func40, Tryz.ntmps40
  go_wp2_with (first
 | (go_at_call 89; refine (within_any _ _ _ _).mono ?_; rintro e w' ⟨rfl, rfl⟩)
 | (go_at_call 91; refine (implSlotsOk a l n cap _ HL.out hc hA).mono ?_; rintro e w9 ⟨rfl, hb9⟩))
  go_ret
  exact ⟨rfl, hB⟩
 skip
 cases g4 : inB h.i 0 60
 ·rw [show msgOkB h of_ l = false by simp [msgOkB, g0, g1, g2, g3, g4]]
  go_enter Tryz.func40, Tryz.ntmps40
  go_wp2_with (first
 | (go_at_call 89; refine (within_any _ _ _ _).mono ?_; rintro e w' ⟨rfl, rfl⟩)
 | (go_at_call 91; refine (implSlotsOk a l n cap _ HL.out hc hA).mono ?_; rintro e w9 ⟨rfl, hb9⟩))
  go_ret
  exact ⟨rfl, hB⟩
 skip
 cases g5 : inB h.n 0 60
 ·rw [show msgOkB h of_ l = false by simp [msgOkB, g0, g1, g2, g3, g4, g5]]
  go_enter Tryz.func40, Tryz.ntmps40
  go_wp2_with (first
 | (go_at_call 89; refine (within_any _ _ _ _).mono ?_; rintro e w' ⟨rfl, rfl⟩)
 | (go_at_call 91; refine (implSlotsOk a l n cap _ HL.out hc hA).mono ?_; rintro e w9 ⟨rfl, hb9⟩))
  go_ret
  exact ⟨rfl, hB⟩
 skip
 by_cases g6 : (h.x.size : Int) ≤ 100
 ·rw [show msgOkB h of_ l = slotsOkB l by simp [msgOkB, g0, g1, g2, g3, g4, g5, g6]]
  cases g7 : slotsOkB l
  ·go_enter Tryz.func40, Tryz.ntmps40
   go_wp2_with (first
 | (go_at_call 89; refine (within_any _ _ _ _).mono ?_; rintro e w' ⟨rfl, rfl⟩)
 | (go_at_call 91; refine (implSlotsOk a l n cap _ HL.out hc hA).mono ?_; rintro e w9 ⟨rfl, hb9⟩))
   go_ret
   exact ⟨rfl, ext_trans hB hb9⟩
  go_enter Tryz.func40, Tryz.ntmps40
  go_wp2_with (first
 | (go_at_call 89; refine (within_any _ _ _ _).mono ?_; rintro e w' ⟨rfl, rfl⟩)
 | (go_at_call 91; refine (implSlotsOk a l n cap _ HL.out hc hA).mono ?_; rintro e w9 ⟨rfl, hb9⟩))
  go_ret
  exact ⟨rfl, ext_trans hB hb9⟩
 rw [show msgOkB h of_ l = false by simp [msgOkB, g6]]
 go_enter Tryz.func40, Tryz.ntmps40
 go_wp2_with (first
 | (go_at_call 89; refine (within_any _ _ _ _).mono ?_; rintro e w' ⟨rfl, rfl⟩)
 | (go_at_call 91; refine (implSlotsOk a l n cap _ HL.out hc hA).mono ?_; rintro e w9 ⟨rfl, hb9⟩))
 go_ret
 exact ⟨rfl, hB⟩
end Go.Proofs.YtffklmlljekceaaGreat
namespace Go.Proofs.YtffklmlljekceaaGreat
open Go.ChangeShapes Go.WideShapes Go.ChangeAt Go.RowKit Go.Deep Go.Joins
set_option linter.unusedSimpArgs false
set_option linter.unusedVariables false
set_option maxHeartbeats 2000000
set_option maxRecDepth 100000
def strOf : Value → ByteArray | .string t => t | _ => ByteArray.empty
theorem slots_open {H : Type} {enc : TypeId × Value → H} {W : World} {sp : Nat → Bool} {fuel : Nat} {v : Value} {y : DataW H × List MemPlace}
  (h : DataW.trod enc Tryz.prog W 0 sp true fuel 22 [v] = some y) :
  ∃ a n cap l, v = .slice a n cap ∧ List.length l = n ∧ n ≤ maxLen ∧ SlotsAt W a l := by
 rcases open_slice_pairs Tryz.underlying22 Tryz.underlying94 (by kernel_rfl) rfl rfl (by kernel_rfl) (by kernel_rfl) h with ⟨hcs, _⟩ | ⟨x, len, cap, m, k, V0, V1, D0, D1, P0, P1, hcs, _, hl, hm, hmm, _, hx⟩
 ·simp only [List.cons.injEq, and_true] at hcs
  exact ⟨none, 0, 0, [], hcs, rfl, by unfold maxLen; omega, fun i s hs => by simp at hs⟩
 simp only [List.cons.injEq, and_true] at hcs
 have hlm : len ≤ m := by rw [hmm]; split <;> omega
 refine ⟨some x, len, cap, (List.range len).map fun i => (intOf (V0 i), strOf (V1 i)), hcs, by simp, by omega, fun i s hs => ?_⟩
 have hi : i < len := by
  have := (List.getElem?_eq_some_iff.1 hs).1
  simpa using this
 simp only [List.getElem?_map, List.getElem?_range hi, Option.map_some, Option.some.injEq] at hs
 subst hs
 obtain ⟨c0, c1, t0, t1⟩ := hx i (by omega)
 obtain ⟨z, e0, _, wz⟩ := DataW.trod_int Tryz.underlying3 t0
 obtain ⟨t, e1, _, ht⟩ := DataW.trod_string Tryz.underlying9 t1
 simp only [List.cons.injEq, and_true] at e0 e1
 obtain ⟨b, off, spot⟩ := x
 have hspot : spot = none := by simpa [Addr.add] using World.cell?_spot (hx 0 (by omega)).1
 subst hspot
 rw [Addr.add_mid] at c0 c1
 rw [e0] at c0 ⊢
 rw [e1] at c1 ⊢
 exact ⟨b, off, rfl, World.block_lt_of_cell? W _ c0, c0, by simpa [Nat.add_assoc, strOf] using c1, ht, wz⟩
theorem szMsg (h : MsgH) (a : Option Addr) (l : List Sl) (n cap : Nat) (left : Int) (w : World) (hn : l.length = n) (hl : 0 ≤ left) (hm : left ≤ 1048576) (hc : n ≤ maxLen) (hx : h.x.size ≤ maxLen) (hs : SlotsAt w a l) :
  Calls Tryz.prog 6 #[.agg (msgV h (.slice a n cap)), .int .i64 left] w fun e w' => ∃ r : Int, e = .returned (.int .i64 r) ∧ -1 ≤ r ∧ r ≤ left ∧ (0 ≤ r → n ≤ 1048576) ∧ Below w.heap.size w w' := by
 have HL : Hid (l.length = n) := hn
 clear hn
 unfold maxLen at hx
 have hB : Below w.heap.size w (w.alloc (.cells (msgV h (.slice a n cap)) 32)) := ext_alloc (Below.refl _ _) _
 have hA := hs.ext hB
 clear hs
 by_cases hz : left < (h.x.size : Int)
 ·go_enter Tryz.func6, Tryz.ntmps6
  go_wp2_with fail
  go_ret
  exact ⟨-1, rfl, by omega, by omega, by omega, hB⟩
 go_enter Tryz.func6, Tryz.ntmps6
 go_wp2_with (go_at_call 25; refine (szSlots a l n cap _ _ HL.out (by omega) (by omega) hc hA).mono ?_; rintro e w' ⟨r, rfl, h1, h2, h3, hb'⟩)
 all_goals go_ret
 ·exact ⟨-1, rfl, by omega, by omega, by omega, ext_trans hB hb'⟩
 exact ⟨r, rfl, by omega, by omega, h3, ext_trans hB hb'⟩
theorem eqMsg_same (h : MsgH) (a1 a2 : Option Addr) (l : List Sl) (n cap1 cap2 : Nat) (w : World) (hn : l.length = n) (hc : n ≤ maxLen) (h1 : SlotsAt w a1 l) (h2 : SlotsAt w a2 l) :
  Calls Tryz.prog 12 #[.agg (msgV h (.slice a1 n cap1)), .agg (msgV h (.slice a2 n cap2))] w fun e w' => e = .returned (.bool true) ∧ Below w.heap.size w w' := by
 have HL : Hid (l.length = n) := hn
 clear hn
 have hB : Below w.heap.size w ((w.alloc (.cells (msgV h (.slice a1 n cap1)) 45)).alloc (.cells (msgV h (.slice a2 n cap2)) 45)) := ext_alloc (ext_alloc (Below.refl _ _) _) _
 have g1 := h1.ext hB
 have g2 := h2.ext hB
 go_enter Tryz.func12, Tryz.ntmps12
 go_wp2_with (go_at_call 45; refine (eqSlots_same a1 a2 l n cap1 cap2 _ HL.out hc g1 g2).mono ?_; rintro e w' ⟨rfl, hb'⟩)
 go_ret
 exact ⟨rfl, ext_trans hB hb'⟩
theorem toMsg (h : MsgH) (a : Option Addr) (l : List Sl) (n cap : Nat) (w : World) (hn : l.length = n) (hc : n ≤ 1048576) (hs : SlotsAt w a l) :
  Calls Tryz.prog 9 #[.agg (msgV h (.slice a n cap))] w fun e w' => ∃ g, e = .returned (.agg (msgV h (.slice (some ⟨g, 0, none⟩) n n))) ∧ w.heap.size ≤ g ∧ SlotsOwn w' g l ∧ Below w.heap.size w w' := by
 have HL : Hid (l.length = n) := hn
 clear hn
 go_enter Tryz.func9, Tryz.ntmps9
 go_wp2_with fail
 have hB : Below w.heap.size w (((w.alloc (.cells (msgV h (.slice a n cap)) 32)).alloc (.cells (msgV ⟨0, 0, 0, 0, 0, 0, ⟨#[]⟩⟩ (.slice none 0 0)) 45)).alloc (.cells (msgV h (.slice none 0 0)) 45)) := ext_alloc (ext_alloc (ext_alloc (Below.refl _ _) _) _) _
 refine (toSlots a l n cap _ HL.out hc (hs.ext hB)).mono ?_
 rintro e w1 ⟨g, rfl, hg, hown, hb1⟩
 have b1 : Blk w1 (w.heap.size + 1) (msgV ⟨0, 0, 0, 0, 0, 0, ⟨#[]⟩⟩ (.slice none 0 0)) 45 := ((Blk.new' _ _ (by simp)).alloc _).ext hb1
 have b2 : Blk w1 (w.heap.size + 1 + 1) (msgV h (.slice none 0 0)) 45 := (Blk.new' _ _ (by simp)).ext hb1
 have c1 := b1.cell
 have c2 := b2.cell
 have f1 := b1.free
 have f2 := b2.free
 have hg' : w.heap.size + 1 + 1 < g := by simp at hg; omega
 clear b1 b2 hs
 go_wp2
 refine bodyPost_ret (v := .agg (msgV h (.slice (some ⟨g, 0, none⟩) n n))) (by simp [results, Tryz.results9, go_sem, c1, c2]) rfl ⟨g, rfl, by omega, ?_, ?_⟩
 ·iterate 9 refine SlotsOwn.setCell ?_ (by simp; omega) _
  exact hown
 iterate 9 refine Below.setCell ?_ (by simp; try omega) _
 exact ext_trans hB hb1
theorem list8 {α : Type} {l : List α} (h : l.length = 8) : ∃ c0 c1 c2 c3 c4 c5 c6 c7, l = [c0, c1, c2, c3, c4, c5, c6, c7] := by
 match l, h with
 | [c0, c1, c2, c3, c4, c5, c6, c7], _ => exact ⟨c0, c1, c2, c3, c4, c5, c6, c7, rfl⟩
theorem cellsInt : Tryz.prog.cellsOf 3 = 1 := by kernel_rfl
theorem cellsStr : Tryz.prog.cellsOf 9 = 1 := by kernel_rfl
theorem cellsBool : Tryz.prog.cellsOf 4 = 1 := by kernel_rfl
theorem cellsLSlots : Tryz.prog.cellsOf 22 = 1 := by kernel_rfl
theorem cellsLMsg : Tryz.prog.cellsOf 32 = 8 := by kernel_rfl
theorem int_of {H : Type} {enc : TypeId × Value → H} {W : World} {sp : Nat → Bool} {fuel : Nat} {c : Value} {o : Option (DataW H × List MemPlace)}
  (h : DataW.trod enc Tryz.prog W 0 sp true fuel 3 [c] = o) (ho : o.isSome = true) : ∃ z, c = .int .i64 z ∧ (Lit.int .i64 z).wf = true := by
 obtain ⟨y, rfl⟩ := Option.isSome_iff_exists.1 ho
 obtain ⟨z, e, _, wz⟩ := DataW.trod_int Tryz.underlying3 h
 simp only [List.cons.injEq, and_true] at e
 exact ⟨z, e, wz⟩
theorem str_of {H : Type} {enc : TypeId × Value → H} {W : World} {sp : Nat → Bool} {fuel : Nat} {c : Value} {o : Option (DataW H × List MemPlace)}
  (h : DataW.trod enc Tryz.prog W 0 sp true fuel 9 [c] = o) (ho : o.isSome = true) : ∃ t, c = .string t ∧ t.size ≤ maxLen := by
 obtain ⟨y, rfl⟩ := Option.isSome_iff_exists.1 ho
 obtain ⟨z, e, _, wz⟩ := DataW.trod_string Tryz.underlying9 h
 simp only [List.cons.injEq, and_true] at e
 exact ⟨z, e, wz⟩
theorem slots_of {H : Type} {enc : TypeId × Value → H} {W : World} {sp : Nat → Bool} {fuel : Nat} {c : Value} {o : Option (DataW H × List MemPlace)}
  (h : DataW.trod enc Tryz.prog W 0 sp true fuel 22 [c] = o) (ho : o.isSome = true) : ∃ a n cap l, c = .slice a n cap ∧ List.length l = n ∧ n ≤ maxLen ∧ SlotsAt W a l := by
 obtain ⟨y, rfl⟩ := Option.isSome_iff_exists.1 ho
 exact slots_open h
theorem some_of {α : Type} {l : List α} {n : Nat} (h : l.length = n) (i : Nat) (hi : i < n) : l[i]?.isSome = true := by
 rw [List.getElem?_eq_getElem (by omega)]; rfl
theorem msg_cells {H : Type} {enc : TypeId × Value → H} {W : World} {sp : Nat → Bool} {fuel : Nat} {cs : List Value} {x : DataW H × List MemPlace}
  (h : DataW.trod enc Tryz.prog W 0 sp true fuel 32 cs = some x) :
  ∃ m a n cap l, cs = (msgV m (.slice a n cap)).toList ∧ m.x.size ≤ maxLen ∧ List.length l = n ∧ n ≤ maxLen ∧ SlotsAt W a l := by
 obtain ⟨xs, k, _, _, hl, hlen, hf⟩ := DataW.trod_struct Tryz.underlying32 h
 rw [cellsLMsg] at hl
 obtain ⟨c0, c1, c2, c3, c4, c5, c6, c7, rfl⟩ := list8 hl
 have hlen' : xs.length = 8 := hlen
 have f0 : DataW.trod enc Tryz.prog W 0 sp true k 3 (List.take (Tryz.prog.cellsOf 3) (List.drop 0 [c0, c1, c2, c3, c4, c5, c6, c7])) = xs[0]? := hf 0 _ rfl
 have f1 : DataW.trod enc Tryz.prog W 0 sp true k 3 (List.take (Tryz.prog.cellsOf 3) (List.drop 1 [c0, c1, c2, c3, c4, c5, c6, c7])) = xs[1]? := hf 1 _ rfl
 have f2 : DataW.trod enc Tryz.prog W 0 sp true k 3 (List.take (Tryz.prog.cellsOf 3) (List.drop 2 [c0, c1, c2, c3, c4, c5, c6, c7])) = xs[2]? := hf 2 _ rfl
 have f3 : DataW.trod enc Tryz.prog W 0 sp true k 3 (List.take (Tryz.prog.cellsOf 3) (List.drop 3 [c0, c1, c2, c3, c4, c5, c6, c7])) = xs[3]? := hf 3 _ rfl
 have f4 : DataW.trod enc Tryz.prog W 0 sp true k 3 (List.take (Tryz.prog.cellsOf 3) (List.drop 4 [c0, c1, c2, c3, c4, c5, c6, c7])) = xs[4]? := hf 4 _ rfl
 have f5 : DataW.trod enc Tryz.prog W 0 sp true k 3 (List.take (Tryz.prog.cellsOf 3) (List.drop 5 [c0, c1, c2, c3, c4, c5, c6, c7])) = xs[5]? := hf 5 _ rfl
 have f6 : DataW.trod enc Tryz.prog W 0 sp true k 9 (List.take (Tryz.prog.cellsOf 9) (List.drop 6 [c0, c1, c2, c3, c4, c5, c6, c7])) = xs[6]? := hf 6 _ rfl
 have f7 : DataW.trod enc Tryz.prog W 0 sp true k 22 (List.take (Tryz.prog.cellsOf 22) (List.drop 7 [c0, c1, c2, c3, c4, c5, c6, c7])) = xs[7]? := hf 7 _ rfl
 simp only [cellsInt, cellsStr, cellsLSlots, List.drop_succ_cons, List.drop_zero, List.take_succ_cons, List.take_zero] at f0 f1 f2 f3 f4 f5 f6 f7
 obtain ⟨z0, rfl, _⟩ := int_of f0 (some_of hlen' 0 (by omega))
 obtain ⟨z1, rfl, _⟩ := int_of f1 (some_of hlen' 1 (by omega))
 obtain ⟨z2, rfl, _⟩ := int_of f2 (some_of hlen' 2 (by omega))
 obtain ⟨z3, rfl, _⟩ := int_of f3 (some_of hlen' 3 (by omega))
 obtain ⟨z4, rfl, _⟩ := int_of f4 (some_of hlen' 4 (by omega))
 obtain ⟨z5, rfl, _⟩ := int_of f5 (some_of hlen' 5 (by omega))
 obtain ⟨t6, rfl, ht⟩ := str_of f6 (some_of hlen' 6 (by omega))
 obtain ⟨a, n, cap, l, rfl, hn, hm, hs⟩ := slots_of f7 (some_of hlen' 7 (by omega))
 exact ⟨⟨z0, z1, z2, z3, z4, z5, t6⟩, a, n, cap, l, rfl, ht, hn, hm, hs⟩
end Go.Proofs.YtffklmlljekceaaGreat
