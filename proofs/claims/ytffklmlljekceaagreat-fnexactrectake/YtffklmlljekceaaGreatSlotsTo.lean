/-
  toRecSlot, toRecSlotS, toRecDisk: new memory of the same data.
-/
import Derived.Test.YtffklmlljekceaaGreatSlots
namespace Go.Proofs.YtffklmlljekceaaGreat
open Go.ChangeShapes Go.WideShapes Go.ChangeAt Go.RowKit
set_option linter.unusedVariables false
set_option linter.unusedSimpArgs false

/-- the first k of the slots l lie in the cells C, which have room for all of them -/
def HoldsTo (C : Array Value) (l : List Sl) (k : Nat) : Prop :=
  C.size = l.length * 2 ∧ ∀ i s, i < k → l[i]? = some s → C[i * 2]? = some (.int .i64 s.1) ∧ C[i * 2 + 1]? = some (.string s.2)
theorem HoldsTo.step {C : Array Value} {l : List Sl} {k : Nat} {s : Sl} (h : HoldsTo C l k) (hs : l[k]? = some s) :
    HoldsTo ((C.setIfInBounds (k * 2) (.int .i64 s.1)).setIfInBounds (k * 2 + 1) (.string s.2)) l (k + 1) := by
  obtain ⟨hz, hc⟩ := h
  have hk : k < l.length := (List.getElem?_eq_some_iff.1 hs).1
  refine ⟨by simp [hz], fun i u hi hu => ?_⟩
  by_cases he : i = k
  · subst he
    rw [hs] at hu
    simp only [Option.some.injEq] at hu
    subst hu
    constructor
    · rw [Array.getElem?_setIfInBounds_ne (by omega), Array.getElem?_setIfInBounds_self_of_lt (by omega)]
    · rw [Array.getElem?_setIfInBounds_self_of_lt (by simp; omega)]
  · obtain ⟨c0, c1⟩ := hc i u (by omega) hu
    constructor
    · rw [Array.getElem?_setIfInBounds_ne (by omega), Array.getElem?_setIfInBounds_ne (by omega), c0]
    · rw [Array.getElem?_setIfInBounds_ne (by omega), Array.getElem?_setIfInBounds_ne (by omega), c1]

/-- the slots l are all that block g holds; it may be written -/
def SlotsOwn (w : World) (g : Nat) (l : List Sl) : Prop := ∃ C, Blk w g C 108 ∧ HoldsTo C l l.length
/-- every text is one, every number fits -/
def GoodSlots (l : List Sl) : Prop := ∀ (i : Nat) s, l[i]? = some s → s.2.size ≤ maxLen ∧ (Lit.int .i64 s.1).wf = true
theorem SlotsAt.good {w : World} {a : Option Addr} {l : List Sl} (h : SlotsAt w a l) : GoodSlots l := fun i s hs => by
  obtain ⟨b, off, _, _, _, _, r⟩ := h i s hs
  exact r
theorem SlotsOwn.at {w : World} {g : Nat} {l : List Sl} (h : SlotsOwn w g l) (hg : GoodSlots l) : SlotsAt w (some ⟨g, 0, none⟩) l := fun i s hs => by
  obtain ⟨C, hb, hz, hc⟩ := h
  have hi : i < l.length := (List.getElem?_eq_some_iff.1 hs).1
  obtain ⟨c0, c1⟩ := hc i s hi hs
  exact ⟨g, 0, rfl, hb.lt, by rw [Nat.zero_add, hb.cell, c0], by rw [Nat.zero_add, hb.cell, c1], hg i s hs⟩
theorem SlotsOwn.ext {w w' : World} {g : Nat} {l : List Sl} (h : SlotsOwn w g l) (hb : Below w.heap.size w w') : SlotsOwn w' g l := by
  obtain ⟨C, h1, h2⟩ := h
  exact ⟨C, h1.ext hb, h2⟩
theorem SlotsOwn.setCell {w : World} {g : Nat} {l : List Sl} (h : SlotsOwn w g l) {p : Addr} (hp : g ≠ p.block) (v : Value) : SlotsOwn (w.setCell p v) g l := by
  obtain ⟨C, h1, h2⟩ := h
  exact ⟨C, h1.setCell hp v, h2⟩
theorem SlotsOwn.lt {w : World} {g : Nat} {l : List Sl} (h : SlotsOwn w g l) : g < w.heap.size := by
  obtain ⟨C, h1, h2⟩ := h
  exact h1.lt

theorem toSlot (b : Int) (t : ByteArray) (w : World) :
    Calls Tryz.prog 83 #[.agg #[.int .i64 b, .string t]] w fun e w' => e = .returned (.agg #[.int .i64 b, .string t]) ∧ Below w.heap.size w w' := by
  go_enter Tryz.func83, Tryz.ntmps83
  go_wp2
  exact bodyPost_ret (v := .agg #[.int .i64 b, .string t]) (by simp [results, Tryz.results83, go_sem]) rfl ⟨rfl, ext_alloc (ext_alloc (ext_alloc (Below.refl _ _) _) _) _⟩

theorem infoSlot : (Tryz.prog.info? 108).map (fun i => (i.zero, i.size, i.bytes)) = some (some (.agg #[.int .i64 0, .string ⟨#[]⟩]), 2, 24) := by kernel_rfl
theorem makeSlots (n : Nat) (hn : n ≤ 1048576) (w : World) :
    (Instr.makeSlice 35 (.int .i64 (n : Int)) (.int .i64 (n : Int))).run Tryz.prog w = .ok (.slice (some ⟨w.heap.size, 0, none⟩) n n) (w.alloc (.cells (madeCells #[.int .i64 0, .string ⟨#[]⟩] (n * 2)) 108)) := by
  obtain ⟨i0, hi, hz0, hz1, hz2⟩ := info_parts infoSlot
  have hm := run_make (P := Tryz.prog) w 35 108 i0 _ Tryz.underlying35 hi hz0 .i64 .i64 (n : Int) (n : Int) (by omega) (by omega) (by rw [hz2]; omega) (by omega)
  rw [hz1] at hm
  simpa [Value.cells] using hm

set_option maxHeartbeats 800000 in
theorem toSlots (a : Option Addr) (l : List Sl) (n cap : Nat) (w : World) (hn : l.length = n) (hc : n ≤ 1048576) (h : SlotsAt w a l) :
    Calls Tryz.prog 36 #[.slice a n cap] w fun e w' => ∃ g, e = .returned (.slice (some ⟨g, 0, none⟩) n n) ∧ w.heap.size ≤ g ∧ SlotsOwn w' g l ∧ Below w.heap.size w w' := by
  have HL : Hid (l.length = n) := hn
  clear hn
  have hmk := makeSlots n hc
  go_enter Tryz.func36, Tryz.ntmps36
  go_wp2
  go_loopw [4] (fun i wr => ∃ (k : Nat) (C : Array Value), k ≤ n ∧ i = .int .i64 k ∧ Blk wr w.heap.size C 108 ∧ HoldsTo C l k ∧ Below w.heap.size w wr) (fun i _ => n - (intOf i).toNat)
  case atStart => exact ⟨0, _, Nat.zero_le _, rfl, Blk.new _ _ _, ⟨by rw [size_madeCells, HL.out], fun i s hi => absurd hi (by omega)⟩, ext_alloc (Below.refl _ _) _⟩
  case round =>
    obtain ⟨k, C, hk, rfl, hB, hH, hbel⟩ := hrel
    by_cases hlt : k < n
    · obtain ⟨s, hs⟩ : ∃ s, l[k]? = some s := ⟨_, List.getElem?_eq_getElem (by rw [HL.out]; exact hlt)⟩
      obtain ⟨b, off, rfl, hb, c0, c1, _⟩ := (h.ext hbel) k s hs
      have HS := hH.step hs
      have hz : C.size = n * 2 := by rw [hH.1, HL.out]
      obtain ⟨x0, hx0⟩ : ∃ v, C[k * 2]? = some v := ⟨_, Array.getElem?_eq_getElem (by omega)⟩
      obtain ⟨x1, hx1⟩ : ∃ v, C[k * 2 + 1]? = some v := ⟨_, Array.getElem?_eq_getElem (by omega)⟩
      clear hs hH
      have e1 : (0 : Int) ≤ (k : Int) := by omega
      have e2 : (k : Int) < (n : Int) := by omega
      go_wp2_with (go_at_call 83; refine (toSlot _ _ _).mono ?_; rintro e w' ⟨rfl, hb'⟩; have hB' := hB.ext hb'; have f0 := hB'.free (k * 2); have f1 := hB'.free (k * 2 + 1); have g0 := (hB'.cell (k * 2)).trans hx0; have g1 := (hB'.cell (k * 2 + 1)).trans hx1)
      go_roundw
      case rel => exact ⟨k + 1, _, by omega, by go_num, heap_setCell_same _ _ _ _ _ _ (heap_setCell_same _ _ _ _ _ _ hB'), HS, ((ext_trans hbel hb').setCell (Nat.le_refl _) _).setCell (Nat.le_refl _) _⟩
      case measure => simp [intOf]; omega
    · go_wp2
      go_ret
      exact ⟨w.heap.size, rfl, Nat.le_refl _, ⟨C, hB, by rw [HL.out, show n = k by omega]; exact hH⟩, hbel⟩

set_option maxHeartbeats 800000 in
theorem toDisk (p q : Int) (a : Option Addr) (l : List Sl) (n cap : Nat) (w : World) (hn : l.length = n) (hc : n ≤ 1048576) (h : SlotsAt w a l) :
    Calls Tryz.prog 32 #[.agg #[.int .i64 p, .int .i64 q, .slice a n cap]] w fun e w' => ∃ g, e = .returned (.agg #[.int .i64 p, .int .i64 q, .slice (some ⟨g, 0, none⟩) n n]) ∧ w.heap.size ≤ g ∧ SlotsOwn w' g l ∧ Below w.heap.size w w' := by
  have HL : Hid (l.length = n) := hn
  clear hn
  go_enter Tryz.func32, Tryz.ntmps32
  go_wp2_with fail
  have hB : Below w.heap.size w (((w.alloc (.cells #[.int .i64 p, .int .i64 q, .slice a n cap] 24)).alloc (.cells #[.int .i64 0, .int .i64 0, .slice none 0 0] 37)).alloc (.cells #[.int .i64 p, .int .i64 q, .slice none 0 0] 37)) := ext_alloc (ext_alloc (ext_alloc (Below.refl _ _) _) _) _
  refine (toSlots a l n cap _ HL.out hc (h.ext hB)).mono ?_
  rintro e w1 ⟨g, rfl, hg, hown, hb1⟩
  have b1 : Blk w1 (w.heap.size + 1) #[.int .i64 0, .int .i64 0, .slice none 0 0] 37 := ((Blk.new' _ _ (by simp)).alloc _).ext hb1
  have b2 : Blk w1 (w.heap.size + 1 + 1) #[.int .i64 p, .int .i64 q, .slice none 0 0] 37 := (Blk.new' _ _ (by simp)).ext hb1
  have c1 := b1.cell
  have c2 := b2.cell
  have f1 := b1.free
  have f2 := b2.free
  have hg' : w.heap.size + 1 + 1 < g := by simp at hg; omega
  clear b1 b2 h
  go_wp2
  refine bodyPost_ret (v := .agg #[.int .i64 p, .int .i64 q, .slice (some ⟨g, 0, none⟩) n n]) (by simp [results, Tryz.results32, go_sem, c1, c2]) rfl ⟨g, rfl, by omega, ?_, ?_⟩
  · exact (((hown.setCell (by simp; omega) _).setCell (by simp; omega) _).setCell (by simp; omega) _).setCell (by simp; omega) _
  · exact ((((ext_trans hB hb1).setCell (by simp; omega) _).setCell (by simp) _).setCell (by simp) _).setCell (by simp) _
end Go.Proofs.YtffklmlljekceaaGreat
