/-
  Lists of numbers and of texts: what is read of one; szIntS, szStringS, toIntS, toStringS, eqIntS, eqStringS.
-/
import Derived.Test.YtffklmlljekceaaGreatMsgs
import Derived.WalkSmall
namespace Go.Proofs.YtffklmlljekceaaGreat
open Go.ChangeShapes Go.WideShapes Go.ChangeAt Go.RowKit Go.Deep Go.Joins
set_option linter.unusedVariables false
set_option linter.unusedSimpArgs false

/-- the values l lie behind the address a, a cell each -/
def OneAt {α : Type} (enc : α → Value) (good : α → Prop) (w : World) (a : Option Addr) (l : List α) : Prop :=
  ∀ (i : Nat) s, l[i]? = some s → ∃ b off, a = some ⟨b, off, none⟩ ∧ b < w.heap.size ∧ w.cell? ⟨b, off + i, none⟩ = some (enc s) ∧ good s
theorem OneAt.ext {α : Type} {enc : α → Value} {good : α → Prop} {w w' : World} {a : Option Addr} {l : List α} (h : OneAt enc good w a l) (hb : Below w.heap.size w w') : OneAt enc good w' a l := fun i s hs => by
  obtain ⟨b, off, ha, hlt, c0, r⟩ := h i s hs
  exact ⟨b, off, ha, Nat.lt_of_lt_of_le hlt hb.size, (hb.cell (p := ⟨b, off + i, none⟩) hlt).trans c0, r⟩
def GoodOnes {α : Type} (good : α → Prop) (l : List α) : Prop := ∀ (i : Nat) s, l[i]? = some s → good s
theorem OneAt.good {α : Type} {enc : α → Value} {good : α → Prop} {w : World} {a : Option Addr} {l : List α} (h : OneAt enc good w a l) : GoodOnes good l := fun i s hs => by
  obtain ⟨b, off, _, _, _, r⟩ := h i s hs
  exact r
/-- the first k of them lie in the cells C -/
def OnesTo {α : Type} (enc : α → Value) (C : Array Value) (l : List α) (k : Nat) : Prop := C.size = l.length ∧ ∀ (i : Nat) s, i < k → l[i]? = some s → C[i]? = some (enc s)
theorem OnesTo.step {α : Type} {enc : α → Value} {C : Array Value} {l : List α} {k : Nat} {s : α} (h : OnesTo enc C l k) (hs : l[k]? = some s) : OnesTo enc (C.setIfInBounds k (enc s)) l (k + 1) := by
  obtain ⟨hz, hc⟩ := h
  have hk : k < l.length := (List.getElem?_eq_some_iff.1 hs).1
  refine ⟨by simp [hz], fun i u hi hu => ?_⟩
  by_cases he : i = k
  · subst he
    rw [hs] at hu
    simp only [Option.some.injEq] at hu
    subst hu
    rw [Array.getElem?_setIfInBounds_self_of_lt (by omega)]
  · rw [Array.getElem?_setIfInBounds_ne (by omega), hc i u (by omega) hu]
/-- all that block g holds -/
def OnesOwn {α : Type} (enc : α → Value) (e : TypeId) (w : World) (g : Nat) (l : List α) : Prop := ∃ C, Blk w g C e ∧ OnesTo enc C l l.length
theorem OnesOwn.at {α : Type} {enc : α → Value} {good : α → Prop} {e : TypeId} {w : World} {g : Nat} {l : List α} (h : OnesOwn enc e w g l) (hg : GoodOnes good l) : OneAt enc good w (some ⟨g, 0, none⟩) l := fun i s hs => by
  obtain ⟨C, hb, hz, hc⟩ := h
  have hi : i < l.length := (List.getElem?_eq_some_iff.1 hs).1
  exact ⟨g, 0, rfl, hb.lt, by rw [Nat.zero_add, hb.cell, hc i s hi hs], hg i s hs⟩
theorem OnesOwn.ext {α : Type} {enc : α → Value} {e : TypeId} {w w' : World} {g : Nat} {l : List α} (h : OnesOwn enc e w g l) (hb : Below w.heap.size w w') : OnesOwn enc e w' g l := by
  obtain ⟨C, h1, h2⟩ := h
  exact ⟨C, h1.ext hb, h2⟩
theorem OnesOwn.setCell {α : Type} {enc : α → Value} {e : TypeId} {w : World} {g : Nat} {l : List α} (h : OnesOwn enc e w g l) {p : Addr} (hp : g ≠ p.block) (v : Value) : OnesOwn enc e (w.setCell p v) g l := by
  obtain ⟨C, h1, h2⟩ := h
  exact ⟨C, h1.setCell hp v, h2⟩
theorem OnesOwn.lt {α : Type} {enc : α → Value} {e : TypeId} {w : World} {g : Nat} {l : List α} (h : OnesOwn enc e w g l) : g < w.heap.size := by
  obtain ⟨C, h1, h2⟩ := h
  exact h1.lt

def wfI (z : Int) : Prop := (Lit.int .i64 z).wf = true
def okS (t : ByteArray) : Prop := t.size ≤ maxLen
abbrev IntsAt (w : World) (a : Option Addr) (l : List Int) : Prop := OneAt (fun z => Value.int .i64 z) wfI w a l
abbrev StrsAt (w : World) (a : Option Addr) (l : List ByteArray) : Prop := OneAt (fun t => Value.string t) okS w a l
abbrev IntsOwn (w : World) (g : Nat) (l : List Int) : Prop := OnesOwn (fun z => Value.int .i64 z) 3 w g l
abbrev StrsOwn (w : World) (g : Nat) (l : List ByteArray) : Prop := OnesOwn (fun t => Value.string t) 9 w g l

set_option maxHeartbeats 400000 in
theorem szInts (a : Option Addr) (n cap : Nat) (left : Int) (w : World) (hl : 0 ≤ left) (hm : left ≤ 1048576) (hc : n ≤ maxLen) :
    Calls Tryz.prog 24 #[.slice a n cap, .int .i64 left] w fun e w' => ∃ r : Int, e = .returned (.int .i64 r) ∧ -1 ≤ r ∧ r ≤ left ∧ (0 ≤ r → n ≤ 1048576) ∧ Below w.heap.size w w' := by
  unfold maxLen at hc
  by_cases hz : left < n
  · go_enter Tryz.func24, Tryz.ntmps24
    go_wp2
    go_ret
    exact ⟨-1, rfl, by omega, by omega, by omega, Below.refl _ _⟩
  · go_enter Tryz.func24, Tryz.ntmps24
    go_wp2
    go_ret
    exact ⟨_, rfl, by omega, by omega, by omega, Below.refl _ _⟩

set_option maxHeartbeats 400000 in
theorem szStrs (a : Option Addr) (l : List ByteArray) (n cap : Nat) (left : Int) (w : World) (hn : l.length = n) (hl : 0 ≤ left) (hm : left ≤ 1048576) (hc : n ≤ maxLen) (h : StrsAt w a l) :
    Calls Tryz.prog 23 #[.slice a n cap, .int .i64 left] w fun e w' => ∃ r : Int, e = .returned (.int .i64 r) ∧ -1 ≤ r ∧ r ≤ left ∧ (0 ≤ r → n ≤ 1048576) ∧ Below w.heap.size w w' := by
  unfold maxLen at hc
  have HL : Hid (l.length = n) := hn
  clear hn
  by_cases hz : left < n
  · go_enter Tryz.func23, Tryz.ntmps23
    go_wp2
    go_ret
    exact ⟨-1, rfl, by omega, by omega, by omega, Below.refl _ _⟩
  · go_enter Tryz.func23, Tryz.ntmps23
    go_wp2
    go_loop [1, 5] (fun v i => ∃ (k : Nat) (r : Int), k ≤ n ∧ i = .int .i64 k ∧ v = .int .i64 r ∧ 0 ≤ r ∧ r ≤ left) (fun _ i => n - (intOf i).toNat)
    case atStart => exact ⟨0, _, Nat.zero_le _, rfl, rfl, by omega, by omega⟩
    case round =>
      obtain ⟨k, r, hk, rfl, rfl, hr0, hr1⟩ := hrel
      by_cases hlt : k < n
      · obtain ⟨s, hs⟩ : ∃ s, l[k]? = some s := ⟨_, List.getElem?_eq_getElem (by rw [HL.out]; exact hlt)⟩
        obtain ⟨b, off, rfl, hb, c0, ht⟩ := h k s hs
        unfold okS maxLen at ht
        clear hs
        by_cases hq : r < (s.size : Int)
        · go_wp2
          go_ret
          exact ⟨-1, rfl, by omega, by omega, by omega, Below.refl _ _⟩
        · go_wp2
          go_round
          case rel => exact ⟨k + 1, _, by omega, by go_num, rfl, by omega, by omega⟩
          case measure => simp [intOf]; omega
      · go_wp2
        go_ret
        exact ⟨r, rfl, by omega, by omega, by omega, Below.refl _ _⟩

theorem infoInts : (Tryz.prog.info? 3).map (fun i => (i.zero, i.size, i.bytes)) = some (some (.int .i64 0), 1, 8) := by kernel_rfl
theorem makeInts (n : Nat) (hn : n ≤ 1048576) (w : World) :
    (Instr.makeSlice 27 (.int .i64 (n : Int)) (.int .i64 (n : Int))).run Tryz.prog w = .ok (.slice (some ⟨w.heap.size, 0, none⟩) n n) (w.alloc (.cells (madeCells #[.int .i64 0] n) 3)) := by
  obtain ⟨i0, hi, hz0, hz1, hz2⟩ := info_parts infoInts
  have hm := run_make (P := Tryz.prog) w 27 3 i0 _ Tryz.underlying27 hi hz0 .i64 .i64 (n : Int) (n : Int) (by omega) (by omega) (by rw [hz2]; omega) (by omega)
  rw [hz1] at hm
  simpa [Value.cells] using hm

set_option maxHeartbeats 800000 in
theorem toInts (a : Option Addr) (l : List Int) (n cap : Nat) (w : World) (hn : l.length = n) (hc : n ≤ 1048576) (h : IntsAt w a l) :
    Calls Tryz.prog 35 #[.slice a n cap] w fun e w' => ∃ g, e = .returned (.slice (some ⟨g, 0, none⟩) n n) ∧ w.heap.size ≤ g ∧ IntsOwn w' g l ∧ Below w.heap.size w w' := by
  have HL : Hid (l.length = n) := hn
  clear hn
  have hmk := makeInts n hc
  go_enter Tryz.func35, Tryz.ntmps35
  go_wp2
  go_loopw [4] (fun i wr => ∃ (k : Nat) (C : Array Value), k ≤ n ∧ i = .int .i64 k ∧ Blk wr w.heap.size C 3 ∧ OnesTo (fun z => Value.int .i64 z) C l k ∧ Below w.heap.size w wr) (fun i _ => n - (intOf i).toNat)
  case atStart => exact ⟨0, _, Nat.zero_le _, rfl, Blk.new _ _ _, ⟨by rw [size_madeCells, HL.out], fun i s hi => absurd hi (by omega)⟩, ext_alloc (Below.refl _ _) _⟩
  case round =>
    obtain ⟨k, C, hk, rfl, hB, hH, hbel⟩ := hrel
    by_cases hlt : k < n
    · obtain ⟨s, hs⟩ : ∃ s, l[k]? = some s := ⟨_, List.getElem?_eq_getElem (by rw [HL.out]; exact hlt)⟩
      obtain ⟨b, off, rfl, hb, c0, _⟩ := (h.ext hbel) k s hs
      have HS := hH.step hs
      have hz : C.size = n := by rw [hH.1, HL.out]
      obtain ⟨x0, hx0⟩ : ∃ v, C[k]? = some v := ⟨_, Array.getElem?_eq_getElem (by omega)⟩
      clear hs hH
      have e1 : (0 : Int) ≤ (k : Int) := by omega
      have e2 : (k : Int) < (n : Int) := by omega
      have f0 := hB.free k
      have g0 := (hB.cell k).trans hx0
      clear hx0 hz
      have HB : Hid (Blk wr w.heap.size C 3) := hB
      clear hB
      go_wp2
      go_roundw
      case rel => exact ⟨k + 1, _, by omega, by go_num, heap_setCell_same _ _ _ _ _ _ HB.out, HS, hbel.setCell (Nat.le_refl _) _⟩
      case measure => simp [intOf]; omega
    · go_wp2
      go_ret
      exact ⟨w.heap.size, rfl, Nat.le_refl _, ⟨C, hB, by rw [HL.out, show n = k by omega]; exact hH⟩, hbel⟩

set_option maxHeartbeats 800000 in
theorem eqInts_same (a1 a2 : Option Addr) (l : List Int) (n cap1 cap2 : Nat) (w : World) (hn : l.length = n) (hc : n ≤ maxLen) (h1 : IntsAt w a1 l) (h2 : IntsAt w a2 l) :
    Calls Tryz.prog 44 #[.slice a1 n cap1, .slice a2 n cap2] w fun e w' => e = .returned (.bool true) ∧ Below w.heap.size w w' := by
  unfold maxLen at hc
  have HL : Hid (l.length = n) := hn
  clear hn
  go_enter Tryz.func44, Tryz.ntmps44
  go_wp2
  go_loopw [5] (fun i wr => ∃ (k : Nat), k ≤ n ∧ i = .int .i64 k ∧ Below w.heap.size w wr) (fun i _ => n - (intOf i).toNat)
  case atStart => exact ⟨0, Nat.zero_le _, rfl, Below.refl _ _⟩
  case round =>
    obtain ⟨k, hk, rfl, hbel⟩ := hrel
    by_cases hlt : k < n
    · obtain ⟨s, hs⟩ : ∃ s, l[k]? = some s := ⟨_, List.getElem?_eq_getElem (by rw [HL.out]; exact hlt)⟩
      obtain ⟨b, off, rfl, hb, c0, _⟩ := (h1.ext hbel) k s hs
      obtain ⟨b2, off2, rfl, hb2, d0, _⟩ := (h2.ext hbel) k s hs
      clear hs h1 h2
      have e1 : (0 : Int) ≤ (k : Int) := by omega
      have e2 : (k : Int) < (n : Int) := by omega
      go_wp2
      go_quiet (fail)
      go_wp2
      go_roundw
      case rel => exact ⟨k + 1, by omega, by go_num, below_drewN hbel _⟩
      case measure => simp [intOf]; omega
    · go_wp2
      go_ret
      exact ⟨rfl, hbel⟩

theorem infoStrs : (Tryz.prog.info? 9).map (fun i => (i.zero, i.size, i.bytes)) = some (some (.string ⟨#[]⟩), 1, 16) := by kernel_rfl
theorem makeStrs (n : Nat) (hn : n ≤ 1048576) (w : World) :
    (Instr.makeSlice 26 (.int .i64 (n : Int)) (.int .i64 (n : Int))).run Tryz.prog w = .ok (.slice (some ⟨w.heap.size, 0, none⟩) n n) (w.alloc (.cells (madeCells #[.string ⟨#[]⟩] n) 9)) := by
  obtain ⟨i0, hi, hz0, hz1, hz2⟩ := info_parts infoStrs
  have hm := run_make (P := Tryz.prog) w 26 9 i0 _ Tryz.underlying26 hi hz0 .i64 .i64 (n : Int) (n : Int) (by omega) (by omega) (by rw [hz2]; omega) (by omega)
  rw [hz1] at hm
  simpa [Value.cells] using hm

set_option maxHeartbeats 800000 in
theorem toStrs (a : Option Addr) (l : List ByteArray) (n cap : Nat) (w : World) (hn : l.length = n) (hc : n ≤ 1048576) (h : StrsAt w a l) :
    Calls Tryz.prog 34 #[.slice a n cap] w fun e w' => ∃ g, e = .returned (.slice (some ⟨g, 0, none⟩) n n) ∧ w.heap.size ≤ g ∧ StrsOwn w' g l ∧ Below w.heap.size w w' := by
  have HL : Hid (l.length = n) := hn
  clear hn
  have hmk := makeStrs n hc
  go_enter Tryz.func34, Tryz.ntmps34
  go_wp2
  go_loopw [4] (fun i wr => ∃ (k : Nat) (C : Array Value), k ≤ n ∧ i = .int .i64 k ∧ Blk wr w.heap.size C 9 ∧ OnesTo (fun z => Value.string z) C l k ∧ Below w.heap.size w wr) (fun i _ => n - (intOf i).toNat)
  case atStart => exact ⟨0, _, Nat.zero_le _, rfl, Blk.new _ _ _, ⟨by rw [size_madeCells, HL.out], fun i s hi => absurd hi (by omega)⟩, ext_alloc (Below.refl _ _) _⟩
  case round =>
    obtain ⟨k, C, hk, rfl, hB, hH, hbel⟩ := hrel
    by_cases hlt : k < n
    · obtain ⟨s, hs⟩ : ∃ s, l[k]? = some s := ⟨_, List.getElem?_eq_getElem (by rw [HL.out]; exact hlt)⟩
      obtain ⟨b, off, rfl, hb, c0, _⟩ := (h.ext hbel) k s hs
      have HS := hH.step hs
      have hz : C.size = n := by rw [hH.1, HL.out]
      obtain ⟨x0, hx0⟩ : ∃ v, C[k]? = some v := ⟨_, Array.getElem?_eq_getElem (by omega)⟩
      clear hs hH
      have e1 : (0 : Int) ≤ (k : Int) := by omega
      have e2 : (k : Int) < (n : Int) := by omega
      have f0 := hB.free k
      have g0 := (hB.cell k).trans hx0
      clear hx0 hz
      have HB : Hid (Blk wr w.heap.size C 9) := hB
      clear hB
      go_wp2
      go_roundw
      case rel => exact ⟨k + 1, _, by omega, by go_num, heap_setCell_same _ _ _ _ _ _ HB.out, HS, hbel.setCell (Nat.le_refl _) _⟩
      case measure => simp [intOf]; omega
    · go_wp2
      go_ret
      exact ⟨w.heap.size, rfl, Nat.le_refl _, ⟨C, hB, by rw [HL.out, show n = k by omega]; exact hH⟩, hbel⟩

set_option maxHeartbeats 800000 in
theorem eqStrs_same (a1 a2 : Option Addr) (l : List ByteArray) (n cap1 cap2 : Nat) (w : World) (hn : l.length = n) (hc : n ≤ maxLen) (h1 : StrsAt w a1 l) (h2 : StrsAt w a2 l) :
    Calls Tryz.prog 43 #[.slice a1 n cap1, .slice a2 n cap2] w fun e w' => e = .returned (.bool true) ∧ Below w.heap.size w w' := by
  unfold maxLen at hc
  have HL : Hid (l.length = n) := hn
  clear hn
  go_enter Tryz.func43, Tryz.ntmps43
  go_wp2
  go_loopw [5] (fun i wr => ∃ (k : Nat), k ≤ n ∧ i = .int .i64 k ∧ Below w.heap.size w wr) (fun i _ => n - (intOf i).toNat)
  case atStart => exact ⟨0, Nat.zero_le _, rfl, Below.refl _ _⟩
  case round =>
    obtain ⟨k, hk, rfl, hbel⟩ := hrel
    by_cases hlt : k < n
    · obtain ⟨s, hs⟩ : ∃ s, l[k]? = some s := ⟨_, List.getElem?_eq_getElem (by rw [HL.out]; exact hlt)⟩
      obtain ⟨b, off, rfl, hb, c0, _⟩ := (h1.ext hbel) k s hs
      obtain ⟨b2, off2, rfl, hb2, d0, _⟩ := (h2.ext hbel) k s hs
      clear hs h1 h2
      have e1 : (0 : Int) ≤ (k : Int) := by omega
      have e2 : (k : Int) < (n : Int) := by omega
      go_wp2
      go_quiet (fail)
      go_wp2
      go_roundw
      case rel => exact ⟨k + 1, by omega, by go_num, below_drewN hbel _⟩
      case measure => simp [intOf]; omega
    · go_wp2
      go_ret
      exact ⟨rfl, hbel⟩

end Go.Proofs.YtffklmlljekceaaGreat
